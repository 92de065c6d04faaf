/-
  The walk of Way: the places that the first crossings lead to, in a row of the call's own.
-/
import Derived.Test.YtcmndfjoaoinjaaDoorRayMem
import Derived.Outline
import Derived.Deep.LoopGhost
import Derived.Deep.AppendLies
import Derived.Deep.Cut
import Derived.Deep.CutRange
import Derived.Deep.RegionWith
namespace Go.Proofs.YtcmndfjoaoinjaaDoor
open Go.RowKit
set_option linter.unusedVariables false
set_option linter.unusedSimpArgs false
namespace RayP
open PlaceW BlkP

/-- The crossings of a direction, told as one contract. -/
theorem soon_c {d m : T3} (hm : Pos3 m) (hml : ∀ k, nA m k ≤ 300) (hs : ∀ k, nA (szT d) k ≤ 1000) {j : Nat} (hj : soonI (szT d) m 3 = j) (w : World) :
    Calls Tryd.prog 18 #[.agg #[.int .i64 (od m 0), .int .i64 (nA (szT d) 0), .int .i64 (dirA d 0), .int .i64 (od m 1), .int .i64 (nA (szT d) 1), .int .i64 (dirA d 1), .int .i64 (od m 2), .int .i64 (nA (szT d) 2), .int .i64 (dirA d 2)]] w fun e w' => e = .returned (.agg #[.int .i64 (od m j), .int .i64 (nA (szT d) j), .int .i64 (dirA d j)]) ∧ Below w.heap.size w w' := by
  have ho : ∀ k, 0 ≤ od m k ∧ od m k ≤ 700 := fun k => ⟨Int.le_of_lt (od_pos hm k), by have := hml k; unfold od; omega⟩
  have hn : ∀ k, 0 ≤ nA (szT d) k := fun k => nA_pos (szT_nonneg d) k
  have P : ∀ a b, 0 ≤ od m a * nA (szT d) b ∧ od m a * nA (szT d) b ≤ 100000000 := fun a b => prod_le (ho a).1 (ho a).2 (hn b) (hs b)
  have e1 : soonI (szT d) m 1 = 0 := by simp [soonI]
  have e2 : soonI (szT d) m 2 = if od m 1 * nA (szT d) 0 < od m 0 * nA (szT d) 1 then 1 else 0 := by
    show (if od m 1 * nA (szT d) (soonI (szT d) m 1) < od m (soonI (szT d) m 1) * nA (szT d) 1 then 1 else soonI (szT d) m 1) = _
    rw [e1]
  have e3 : soonI (szT d) m 3 = if od m 2 * nA (szT d) (soonI (szT d) m 2) < od m (soonI (szT d) m 2) * nA (szT d) 2 then 2 else soonI (szT d) m 2 := rfl
  rw [← hj, e3]
  by_cases h1 : od m 1 * nA (szT d) 0 < od m 0 * nA (szT d) 1
  · rw [e2, if_pos h1]
    by_cases h2 : od m 2 * nA (szT d) 1 < od m 1 * nA (szT d) 2
    · rw [if_pos h2]
      exact soonest_12 (P 0 0).1 (P 0 0).2 (P 0 1).1 (P 0 1).2 (P 0 2).1 (P 0 2).2 (P 1 0).1 (P 1 0).2 (P 1 2).1 (P 1 2).2 (P 2 0).1 (P 2 0).2 (P 2 1).1 (P 2 1).2 h1 h2 w
    · rw [if_neg h2]
      exact soonest_11 (P 0 0).1 (P 0 0).2 (P 0 1).1 (P 0 1).2 (P 0 2).1 (P 0 2).2 (P 1 0).1 (P 1 0).2 (P 1 2).1 (P 1 2).2 (P 2 0).1 (P 2 0).2 (P 2 1).1 (P 2 1).2 h1 h2 w
  · rw [e2, if_neg h1]
    by_cases h2 : od m 2 * nA (szT d) 0 < od m 0 * nA (szT d) 2
    · rw [if_pos h2]
      exact soonest_02 (P 0 0).1 (P 0 0).2 (P 0 1).1 (P 0 1).2 (P 0 2).1 (P 0 2).2 (P 1 0).1 (P 1 0).2 (P 1 2).1 (P 1 2).2 (P 2 0).1 (P 2 0).2 (P 2 1).1 (P 2 1).2 h1 h2 w
    · rw [if_neg h2]
      exact soonest_00 (P 0 0).1 (P 0 0).2 (P 0 1).1 (P 0 1).2 (P 0 2).1 (P 0 2).2 (P 1 0).1 (P 1 0).2 (P 1 2).1 (P 1 2).2 (P 2 0).1 (P 2 0).2 (P 2 1).1 (P 2 1).2 h1 h2 w
theorem first_c {d : T3} {w : World} (hT : ATab w) (hd : dirB d.x d.y d.z = true) :
    Calls Tryd.prog 17 #[.agg #[.int .i64 d.x, .int .i64 d.y, .int .i64 d.z]] w fun e w' => e = .returned (.agg #[.int .i64 (od ⟨0, 0, 0⟩ 0), .int .i64 (nA (szT d) 0), .int .i64 (dirA d 0), .int .i64 (od ⟨0, 0, 0⟩ 1), .int .i64 (nA (szT d) 1), .int .i64 (dirA d 1), .int .i64 (od ⟨0, 0, 0⟩ 2), .int .i64 (nA (szT d) 2), .int .i64 (dirA d 2)]) ∧ Below w.heap.size w w' := by
  have hx : inD d.x = true := by cases h : inD d.x <;> simp [dirB, h] at hd ⊢
  have hy : inD d.y = true := by cases h : inD d.y <;> simp [dirB, h] at hd ⊢
  have hz : inD d.z = true := by cases h : inD d.z <;> simp [dirB, h] at hd ⊢
  refine firsts_c hT (inD_true hx) (inD_true hy) (inD_true hz) ?_ ?_ ?_
  · rcases sz_cases d.x with ⟨h1, h2⟩ | ⟨h1, h2⟩
    · exact .inl ⟨h1, h2, by simp [dirA, nA]; omega⟩
    · exact .inr ⟨h1, h2, by simp [dirA, nA, h1]⟩
  · rcases sz_cases d.z with ⟨h1, h2⟩ | ⟨h1, h2⟩
    · exact .inl ⟨h1, h2, by simp [dirA, nA]; omega⟩
    · exact .inr ⟨h1, h2, by simp [dirA, nA, h1]⟩
  · rcases sz_cases d.y with ⟨h1, h2⟩ | ⟨h1, h2⟩
    · exact .inl ⟨h1, h2, by simp [dirA, nA]; omega⟩
    · exact .inr ⟨h1, h2, by simp [dirA, nA, h1]⟩
theorem prod_c {d m : T3} (hml : ∀ k, nA m k ≤ 300) (hs : ∀ k, nA (szT d) k ≤ 1000) (a b : Nat) (hm : Pos3 m) : 0 ≤ od m a * nA (szT d) b ∧ od m a * nA (szT d) b ≤ 100000000 :=
  prod_le (Int.le_of_lt (od_pos hm a)) (by have := hml a; unfold od; omega) (nA_pos (szT_nonneg d) b) (hs b)
/-- The crossing of axis k, out of the three as a value. -/
theorem idx_c (d m : T3) {k : Nat} (hk : k < 3) : ∀ w, (Instr.index 43 (.agg #[.int .i64 (od m 0), .int .i64 (nA (szT d) 0), .int .i64 (dirA d 0), .int .i64 (od m 1), .int .i64 (nA (szT d) 1), .int .i64 (dirA d 1), .int .i64 (od m 2), .int .i64 (nA (szT d) 2), .int .i64 (dirA d 2)]) (.int .i64 (k : Int))).run Tryd.prog w = .ok (.agg #[.int .i64 (od m k), .int .i64 (nA (szT d) k), .int .i64 (dirA d k)]) w := by
  match k, hk with
  | 0, _ => exact fun _ => by kernel_rfl
  | 1, _ => exact fun _ => by kernel_rfl
  | 2, _ => exact fun _ => by kernel_rfl
/-- Behind the first crossings: the boxes of the place and of the crossings. -/
def CutR (p d : T3) (w : World) (v9 v10 : Value) (W : World) : Prop := ∃ bA bN, v9 = .pointer (some ⟨bA, 0, none⟩) ∧ v10 = .pointer (some ⟨bN, 0, none⟩) ∧ bA ≠ bN ∧ w.heap.size ≤ bA ∧ w.heap.size ≤ bN ∧ Blk W bA 23 (cellsT p) ∧ Blk W bN 43 (crAll d ⟨0, 0, 0⟩) ∧ Below w.heap.size w W
set_option maxRecDepth 100000 in
set_option maxHeartbeats 8000000 in
theorem way_c {p d : T3} {n : Nat} {w : World} (hT : ATab w) (hp : mayT p = true) (hd : dirB d.x d.y d.z = true) (hn : n ≤ 256) :
    Calls Tryd.prog 7 #[.agg #[.int .i64 p.x, .int .i64 p.y, .int .i64 p.z], .agg #[.int .i64 d.x, .int .i64 d.y, .int .i64 d.z], .int .i64 (n : Int)] w (WayP (wayA p d n) w) := by
  obtain ⟨i0, hi0, hz0, hz1, hz2⟩ := info_parts infoPlace
  have HI0 := Lib.hid hi0
  have HZ0 := Lib.hid hz0
  have HZ1 := Lib.hid hz1
  have HZ2 := Lib.hid hz2
  clear hi0 hz0 hz1 hz2
  have HT := Lib.hid hT
  have HP := Lib.hid (show mayB p.x p.y p.z = true from hp)
  have HD := Lib.hid hd
  have HP0 := Lib.hid (pos_zero p d)
  clear hT hp hd
  go_enter Tryd.func7, Tryd.ntmps7
  go_wp2_with fail
  go_step3
  go_wp2_with fail
  go_at_call 15
  refine (may_b HP.out _).mono ?_
  rintro e w1 ⟨rfl, hb1⟩
  obtain ⟨hc1, hf1⟩ := bcell hb1; have hz1 : w.heap.size + 1 < w1.heap.size := (by have := hb1.size; (try simp at this); omega); have hl1_0 : w.heap.size < w1.heap.size := (by omega); have hn1_0 : w.heap.size ≠ w1.heap.size := (by omega); have hn1_1 : w.heap.size + 1 ≠ w1.heap.size := (by omega)
  go_wp2_with fail
  go_at_call 16
  refine (direction_c HD.out _).mono ?_
  rintro e w2 ⟨rfl, hb2⟩
  obtain ⟨hc2, hf2⟩ := bcell hb2; have hz2 : w.heap.size + 1 < w2.heap.size := (by have := hb2.size; (try simp at this); omega); have hl2_0 : w.heap.size < w2.heap.size := (by omega); have hn2_0 : w.heap.size ≠ w2.heap.size := (by omega); have hn2_1 : w.heap.size + 1 ≠ w2.heap.size := (by omega)
  go_upto_region 6 with (fail)
  refine HeldP.wp_named (fun W => W.cell? ⟨w.heap.size, 0, none⟩ = some (.int .i64 p.x) ∧ W.cell? ⟨w.heap.size, 1, none⟩ = some (.int .i64 p.y) ∧ W.cell? ⟨w.heap.size, 2, none⟩ = some (.int .i64 p.z) ∧ W.cell? ⟨w.heap.size + 1, 0, none⟩ = some (.int .i64 d.x) ∧ W.cell? ⟨w.heap.size + 1, 1, none⟩ = some (.int .i64 d.y) ∧ W.cell? ⟨w.heap.size + 1, 2, none⟩ = some (.int .i64 d.z) ∧ w.heap.size + 1 < W.heap.size ∧ Below w.heap.size w W) (by (refine ⟨?_, ?_, ?_, ?_, ?_, ?_, ?_, by (repeat' (first | (with_reducible exact Below.refl _ _) | (with_reducible refine Below.setCell ?_ (by (first | omega | (simp; done) | (simp; omega))) _) | (with_reducible refine Below.alloc ?_ (by (first | omega | (simp; done) | (simp; omega))) _) | (with_reducible refine Below.drew ?_) | (with_reducible refine below_drewN ?_ _) | (with_reducible refine Below.trans ?_ (Below.mono hb1 (by (first | omega | (simp; done) | (simp; omega))))) | (with_reducible refine Below.trans ?_ (Below.mono hb2 (by (first | omega | (simp; done) | (simp; omega)))))))⟩); all_goals (repeat' (first | (with_reducible assumption) | (with_reducible refine HeldP.c_below hb2 ?_ ?_) | (with_reducible refine HeldP.f_below hb2 ?_ ?_) | (with_reducible refine HeldP.c_below hb1 ?_ ?_) | (with_reducible refine HeldP.f_below hb1 ?_ ?_) | (with_reducible refine HeldP.c_drew ?_) | (with_reducible refine HeldP.c_drewN ?_) | (with_reducible refine HeldP.c_same (by omega) ?_) | (with_reducible refine HeldP.c_other ?_ ?_) | (with_reducible refine HeldP.c_new (by first | omega | (simp; done) | (simp; omega)) ?_) | (with_reducible refine HeldP.c_alloc ?_ ?_) | (with_reducible refine HeldP.e_drew ?_) | (with_reducible refine HeldP.e_drewN ?_) | (with_reducible refine HeldP.e_set ?_) | (with_reducible refine HeldP.e_new (by first | omega | (simp; done) | (simp; omega)) ⟨_, rfl⟩) | (with_reducible refine HeldP.e_alloc ?_ ?_) | (with_reducible refine HeldP.f_drew ?_) | (with_reducible refine HeldP.f_drewN ?_) | (with_reducible refine HeldP.f_set ?_) | (with_reducible refine HeldP.f_new (by first | omega | (simp; done) | (simp; omega))) | (with_reducible refine HeldP.f_alloc ?_ ?_) | (with_reducible refine HeldP.s_drew ?_) | (with_reducible refine HeldP.s_drewN ?_) | (with_reducible refine HeldP.s_set ?_) | (with_reducible refine HeldP.s_new (by first | omega | (simp; done) | (simp; omega))) | (with_reducible refine HeldP.s_alloc ?_) | (with_reducible exact ⟨_, by assumption⟩) | omega | (intro e; simp at e; done) | (intro e; simp at e; omega) | (exact rfl) | (simp; done) | (simp; omega)))) ?_
  rintro W0 ⟨c0, c1, c2, c3, c4, c5, hz0, hbW⟩
  have HBW := Lib.hid hbW
  clear hc1 hf1 hc2 hf2 hb1 hb2 hbW
  have zz0 : w.heap.size < W0.heap.size := by omega
  have HF : Hid (∀ W, Below w.heap.size w W → Calls Tryd.prog 17 #[.agg #[.int .i64 d.x, .int .i64 d.y, .int .i64 d.z]] W fun e w' => e = .returned (.agg #[.int .i64 (od ⟨0, 0, 0⟩ 0), .int .i64 (nA (szT d) 0), .int .i64 (dirA d 0), .int .i64 (od ⟨0, 0, 0⟩ 1), .int .i64 (nA (szT d) 1), .int .i64 (dirA d 1), .int .i64 (od ⟨0, 0, 0⟩ 2), .int .i64 (nA (szT d) 2), .int .i64 (dirA d 2)]) ∧ Below W.heap.size W w') := Lib.hid (fun W hb => first_c (HT.out.below hb) HD.out)
  go_cut [9, 10] from 30 to 32 (fun s9 s10 W => CutR p d w s9 s10 W)
  case first =>
    refine wp_region_noPanic ?_
    refine wp_region_held_drew (S := fun W => Below W0.heap.size W0 W) (by kernel_rfl) ((Below.refl _ W0).drew) (fun hHeld => ?_)
    refine wpAnyH_take (i := 0) (oi := ⟨some 30, _, _, _, _, _⟩) (v := .agg #[.int .i64 p.x, .int .i64 p.y, .int .i64 p.z]) rfl (by kernel_rfl) (by kernel_rfl) (by kernel_rfl) (fun _ _ _ h => h) (Or.inl ⟨by rfl, fun W hSW => by have a0 := (hSW.cell (p := ⟨w.heap.size, 0, none⟩) zz0).trans c0; have a1 := (hSW.cell (p := ⟨w.heap.size, 1, none⟩) zz0).trans c1; have a2 := (hSW.cell (p := ⟨w.heap.size, 2, none⟩) zz0).trans c2; go_simp⟩) hHeld ?_
    simp only [Act.put, List.setIfInBounds_toArray, List.set_cons_zero, List.set_cons_succ]
    refine wpAnyH_take (i := 1) (oi := ⟨some 31, _, _, _, _, _⟩) (v := .agg #[.int .i64 d.x, .int .i64 d.y, .int .i64 d.z]) rfl (by kernel_rfl) (by kernel_rfl) (by kernel_rfl) (fun _ _ _ h => h) (Or.inl ⟨by rfl, fun W hSW => by have a0 := (hSW.cell (p := ⟨w.heap.size + 1, 0, none⟩) hz0).trans c3; have a1 := (hSW.cell (p := ⟨w.heap.size + 1, 1, none⟩) hz0).trans c4; have a2 := (hSW.cell (p := ⟨w.heap.size + 1, 2, none⟩) hz0).trans c5; go_simp⟩) hHeld ?_
    simp only [Act.put, List.setIfInBounds_toArray, List.set_cons_zero, List.set_cons_succ]
    refine any_named (fun W => Below W0.heap.size W0 W) hHeld ?_
    clear hHeld
    rintro v0 hHeld
    have hSv0 := hHeld.size
    refine wpAnyH_ready (rs := [2, 3, 4]) (by kernel_rfl) (by simp) ?_
    refine AllReadyH.cons (o := ⟨some 32, _, _, _, _, _⟩) rfl (fun K hK => ?_) ?_
    · go_simp
      refine (HF.out _ (by have hbW := HBW.out; (repeat' (first | (with_reducible exact Below.refl _ _) | (with_reducible refine Below.setCell ?_ (by (first | omega | (simp; done) | (simp; omega))) _) | (with_reducible refine Below.alloc ?_ (by (first | omega | (simp; done) | (simp; omega))) _) | (with_reducible refine Below.drew ?_) | (with_reducible refine below_drewN ?_ _) | (with_reducible refine Below.trans ?_ (Below.mono hHeld (by (first | omega | (simp; done) | (simp; omega))))) | (with_reducible refine Below.trans ?_ (Below.mono hbW (by (first | omega | (simp; done) | (simp; omega))))))))).mono ?_
      rintro e wf ⟨rfl, hbf⟩
      go_wp2_with fail
      refine hK.out _ _ (below_t hHeld hbf) (fun hHeld => ?_)
      clear hK K
      refine any_named (fun W => Below W0.heap.size W0 W) hHeld ?_
      clear hHeld
      rintro v1 hHeld
      have hSv1 := hHeld.size
      refine wpAnyH_ready (rs := [3, 4]) (by kernel_rfl) (by simp) ?_
      refine AllReadyH.cons (o := ⟨some 9, _, _, _, _, _⟩) rfl (fun K hK => ?_) ?_
      · go_simp
        refine hK.out _ _ (hHeld.alloc hHeld.size _) (fun hHeld => ?_)
        clear hK K
        have sA : W0.heap.size ≤ v1.heap.size := hSv1
        refine any_named (fun W => Below W0.heap.size W0 W ∧ Blk W v1.heap.size 23 ([.int .i64 0, .int .i64 0, .int .i64 0])) ⟨hHeld, by (repeat' (first | (with_reducible refine BlkP.Blk.drew ?_) | (with_reducible refine BlkP.Blk.drewN ?_ _) | (with_reducible refine BlkP.Blk.setAt (us := ?_) (by first | omega | (simp; done) | (simp; omega)) rfl ?_ ?_) | (with_reducible refine BlkP.Blk.otherAt ?_ (by first | omega | (simp; done) | (simp; omega))) | (with_reducible refine BlkP.Blk.newA' (by first | omega | (simp; done) | (simp; omega)) rfl) | (with_reducible refine BlkP.Blk.alloc ?_ _) | (exact rfl)))⟩ ?_
        clear hHeld
        rintro v2 ⟨hHeld, hA⟩
        have hSv2 := hHeld.size
        refine wpAnyH_ready (rs := [4]) (by kernel_rfl) (by simp) ?_
        refine AllReadyH.cons (o := ⟨some 10, _, _, _, _, _⟩) rfl (fun K hK => ?_) ?_
        · go_simp
          refine hK.out _ _ (hHeld.alloc hHeld.size _) (fun hHeld => ?_)
          clear hK K
          have lA := hA.lt
          have sN : W0.heap.size ≤ v2.heap.size := hSv2
          refine any_named (fun W => Below W0.heap.size W0 W ∧ Blk W v1.heap.size 23 ([.int .i64 0, .int .i64 0, .int .i64 0]) ∧ Blk W v2.heap.size 43 ([.int .i64 0, .int .i64 0, .int .i64 0, .int .i64 0, .int .i64 0, .int .i64 0, .int .i64 0, .int .i64 0, .int .i64 0])) ⟨hHeld, by (repeat' (first | (with_reducible exact hA) | (with_reducible refine BlkP.Blk.drew ?_) | (with_reducible refine BlkP.Blk.drewN ?_ _) | (with_reducible refine BlkP.Blk.setAt (us := ?_) (by first | omega | (simp; done) | (simp; omega)) rfl ?_ ?_) | (with_reducible refine BlkP.Blk.otherAt ?_ (by first | omega | (simp; done) | (simp; omega))) | (with_reducible refine BlkP.Blk.newA' (by first | omega | (simp; done) | (simp; omega)) rfl) | (with_reducible refine BlkP.Blk.alloc ?_ _) | (exact rfl))), by (repeat' (first | (with_reducible refine BlkP.Blk.drew ?_) | (with_reducible refine BlkP.Blk.drewN ?_ _) | (with_reducible refine BlkP.Blk.setAt (us := ?_) (by first | omega | (simp; done) | (simp; omega)) rfl ?_ ?_) | (with_reducible refine BlkP.Blk.otherAt ?_ (by first | omega | (simp; done) | (simp; omega))) | (with_reducible refine BlkP.Blk.newA' (by first | omega | (simp; done) | (simp; omega)) rfl) | (with_reducible refine BlkP.Blk.alloc ?_ _) | (exact rfl)))⟩ ?_
          clear hHeld hA
          rintro v3 ⟨hHeld, hA, hN⟩
          have hSv3 := hHeld.size
          refine wpAnyH_ready (rs := [5]) (by kernel_rfl) (by simp) ?_
          refine AllReadyH.cons (o := ⟨none, _, _, _, _, _⟩) rfl (fun K hK => ?_) ?_
          · have e0 := hA.cell (i := 0) (v := .int .i64 0) rfl
            have f0 := hA.frozen 0
            have e1 := hA.cell (i := 1) (v := .int .i64 0) rfl
            have f1 := hA.frozen 1
            have e2 := hA.cell (i := 2) (v := .int .i64 0) rfl
            have f2 := hA.frozen 2
            have lA := hA.lt
            have lN := hN.lt
            go_simp
            refine hK.out _ _ (by (repeat' (first | (with_reducible exact Below.refl _ _) | (with_reducible refine Below.setCell ?_ (by (first | omega | (simp; done) | (simp; omega))) _) | (with_reducible refine Below.alloc ?_ (by (first | omega | (simp; done) | (simp; omega))) _) | (with_reducible refine Below.drew ?_) | (with_reducible refine below_drewN ?_ _) | (with_reducible refine Below.trans ?_ (Below.mono hHeld (by (first | omega | (simp; done) | (simp; omega)))))))) (fun hHeld => ?_)
            clear hK K
            clear e0 f0 e1 f1 e2 f2
            refine any_named (fun W => Below W0.heap.size W0 W ∧ Blk W v1.heap.size 23 (cellsT p) ∧ Blk W v2.heap.size 43 ([.int .i64 0, .int .i64 0, .int .i64 0, .int .i64 0, .int .i64 0, .int .i64 0, .int .i64 0, .int .i64 0, .int .i64 0])) ⟨hHeld, by (repeat' (first | (with_reducible exact hA) | (with_reducible refine BlkP.Blk.drew ?_) | (with_reducible refine BlkP.Blk.drewN ?_ _) | (with_reducible refine BlkP.Blk.setAt (us := ?_) (by first | omega | (simp; done) | (simp; omega)) rfl ?_ ?_) | (with_reducible refine BlkP.Blk.otherAt ?_ (by first | omega | (simp; done) | (simp; omega))) | (with_reducible refine BlkP.Blk.newA' (by first | omega | (simp; done) | (simp; omega)) rfl) | (with_reducible refine BlkP.Blk.alloc ?_ _) | (exact rfl))), by (repeat' (first | (with_reducible exact hN) | (with_reducible refine BlkP.Blk.drew ?_) | (with_reducible refine BlkP.Blk.drewN ?_ _) | (with_reducible refine BlkP.Blk.setAt (us := ?_) (by first | omega | (simp; done) | (simp; omega)) rfl ?_ ?_) | (with_reducible refine BlkP.Blk.otherAt ?_ (by first | omega | (simp; done) | (simp; omega))) | (with_reducible refine BlkP.Blk.newA' (by first | omega | (simp; done) | (simp; omega)) rfl) | (with_reducible refine BlkP.Blk.alloc ?_ _) | (exact rfl)))⟩ ?_
            clear hHeld hA hN
            rintro v4 ⟨hHeld, hA, hN⟩
            have hSv4 := hHeld.size
            refine wpAnyH_ready (rs := [6]) (by kernel_rfl) (by simp) ?_
            refine AllReadyH.cons (o := ⟨none, _, _, _, _, _⟩) rfl (fun K hK => ?_) ?_
            · have e0 := hN.cell (i := 0) (v := .int .i64 0) rfl
              have f0 := hN.frozen 0
              have e1 := hN.cell (i := 1) (v := .int .i64 0) rfl
              have f1 := hN.frozen 1
              have e2 := hN.cell (i := 2) (v := .int .i64 0) rfl
              have f2 := hN.frozen 2
              have e3 := hN.cell (i := 3) (v := .int .i64 0) rfl
              have f3 := hN.frozen 3
              have e4 := hN.cell (i := 4) (v := .int .i64 0) rfl
              have f4 := hN.frozen 4
              have e5 := hN.cell (i := 5) (v := .int .i64 0) rfl
              have f5 := hN.frozen 5
              have e6 := hN.cell (i := 6) (v := .int .i64 0) rfl
              have f6 := hN.frozen 6
              have e7 := hN.cell (i := 7) (v := .int .i64 0) rfl
              have f7 := hN.frozen 7
              have e8 := hN.cell (i := 8) (v := .int .i64 0) rfl
              have f8 := hN.frozen 8
              have lA := hA.lt
              have lN := hN.lt
              go_simp
              refine hK.out _ _ (by (repeat' (first | (with_reducible exact Below.refl _ _) | (with_reducible refine Below.setCell ?_ (by (first | omega | (simp; done) | (simp; omega))) _) | (with_reducible refine Below.alloc ?_ (by (first | omega | (simp; done) | (simp; omega))) _) | (with_reducible refine Below.drew ?_) | (with_reducible refine below_drewN ?_ _) | (with_reducible refine Below.trans ?_ (Below.mono hHeld (by (first | omega | (simp; done) | (simp; omega)))))))) (fun hHeld => ?_)
              clear hK K
              clear e0 f0 e1 f1 e2 f2 e3 f3 e4 f4 e5 f5 e6 f6 e7 f7 e8 f8
              refine any_named (fun W => Below W0.heap.size W0 W ∧ Blk W v1.heap.size 23 (cellsT p) ∧ Blk W v2.heap.size 43 (crAll d ⟨0, 0, 0⟩)) ⟨hHeld, by (repeat' (first | (with_reducible exact hA) | (with_reducible refine BlkP.Blk.drew ?_) | (with_reducible refine BlkP.Blk.drewN ?_ _) | (with_reducible refine BlkP.Blk.setAt (us := ?_) (by first | omega | (simp; done) | (simp; omega)) rfl ?_ ?_) | (with_reducible refine BlkP.Blk.otherAt ?_ (by first | omega | (simp; done) | (simp; omega))) | (with_reducible refine BlkP.Blk.newA' (by first | omega | (simp; done) | (simp; omega)) rfl) | (with_reducible refine BlkP.Blk.alloc ?_ _) | (exact rfl))), by (repeat' (first | (with_reducible exact hN) | (with_reducible refine BlkP.Blk.drew ?_) | (with_reducible refine BlkP.Blk.drewN ?_ _) | (with_reducible refine BlkP.Blk.setAt (us := ?_) (by first | omega | (simp; done) | (simp; omega)) rfl ?_ ?_) | (with_reducible refine BlkP.Blk.otherAt ?_ (by first | omega | (simp; done) | (simp; omega))) | (with_reducible refine BlkP.Blk.newA' (by first | omega | (simp; done) | (simp; omega)) rfl) | (with_reducible refine BlkP.Blk.alloc ?_ _) | (exact rfl)))⟩ ?_
              clear hHeld hA hN
              rintro v5 ⟨hHeld, hA, hN⟩
              have hSv5 := hHeld.size
              refine wpAnyH_done (by kernel_rfl) ?_ _
              refine NoPanic.normal ?_
              go_wp2_with fail
              go_meet
              case rel =>
                have hbW := HBW.out
                exact ⟨_, _, rfl, rfl, by omega, by omega, by omega, hA, hN, hbW.trans (hHeld.mono hbW.size)⟩
            exact AllReadyH.nil
          exact AllReadyH.nil
        exact AllReadyH.nil
      refine AllReadyH.cons (o := ⟨some 10, _, _, _, _, _⟩) rfl (fun K hK => ?_) ?_
      · go_simp
        refine hK.out _ _ (hHeld.alloc hHeld.size _) (fun hHeld => ?_)
        clear hK K
        have sN : W0.heap.size ≤ v1.heap.size := hSv1
        refine any_named (fun W => Below W0.heap.size W0 W ∧ Blk W v1.heap.size 43 ([.int .i64 0, .int .i64 0, .int .i64 0, .int .i64 0, .int .i64 0, .int .i64 0, .int .i64 0, .int .i64 0, .int .i64 0])) ⟨hHeld, by (repeat' (first | (with_reducible refine BlkP.Blk.drew ?_) | (with_reducible refine BlkP.Blk.drewN ?_ _) | (with_reducible refine BlkP.Blk.setAt (us := ?_) (by first | omega | (simp; done) | (simp; omega)) rfl ?_ ?_) | (with_reducible refine BlkP.Blk.otherAt ?_ (by first | omega | (simp; done) | (simp; omega))) | (with_reducible refine BlkP.Blk.newA' (by first | omega | (simp; done) | (simp; omega)) rfl) | (with_reducible refine BlkP.Blk.alloc ?_ _) | (exact rfl)))⟩ ?_
        clear hHeld
        rintro v2 ⟨hHeld, hN⟩
        have hSv2 := hHeld.size
        refine wpAnyH_ready (rs := [3]) (by kernel_rfl) (by simp) ?_
        refine AllReadyH.cons (o := ⟨some 9, _, _, _, _, _⟩) rfl (fun K hK => ?_) ?_
        · go_simp
          refine hK.out _ _ (hHeld.alloc hHeld.size _) (fun hHeld => ?_)
          clear hK K
          have lN := hN.lt
          have sA : W0.heap.size ≤ v2.heap.size := hSv2
          refine any_named (fun W => Below W0.heap.size W0 W ∧ Blk W v2.heap.size 23 ([.int .i64 0, .int .i64 0, .int .i64 0]) ∧ Blk W v1.heap.size 43 ([.int .i64 0, .int .i64 0, .int .i64 0, .int .i64 0, .int .i64 0, .int .i64 0, .int .i64 0, .int .i64 0, .int .i64 0])) ⟨hHeld, by (repeat' (first | (with_reducible refine BlkP.Blk.drew ?_) | (with_reducible refine BlkP.Blk.drewN ?_ _) | (with_reducible refine BlkP.Blk.setAt (us := ?_) (by first | omega | (simp; done) | (simp; omega)) rfl ?_ ?_) | (with_reducible refine BlkP.Blk.otherAt ?_ (by first | omega | (simp; done) | (simp; omega))) | (with_reducible refine BlkP.Blk.newA' (by first | omega | (simp; done) | (simp; omega)) rfl) | (with_reducible refine BlkP.Blk.alloc ?_ _) | (exact rfl))), by (repeat' (first | (with_reducible exact hN) | (with_reducible refine BlkP.Blk.drew ?_) | (with_reducible refine BlkP.Blk.drewN ?_ _) | (with_reducible refine BlkP.Blk.setAt (us := ?_) (by first | omega | (simp; done) | (simp; omega)) rfl ?_ ?_) | (with_reducible refine BlkP.Blk.otherAt ?_ (by first | omega | (simp; done) | (simp; omega))) | (with_reducible refine BlkP.Blk.newA' (by first | omega | (simp; done) | (simp; omega)) rfl) | (with_reducible refine BlkP.Blk.alloc ?_ _) | (exact rfl)))⟩ ?_
          clear hHeld hN
          rintro v3 ⟨hHeld, hA, hN⟩
          have hSv3 := hHeld.size
          refine wpAnyH_ready (rs := [5]) (by kernel_rfl) (by simp) ?_
          refine AllReadyH.cons (o := ⟨none, _, _, _, _, _⟩) rfl (fun K hK => ?_) ?_
          · have e0 := hA.cell (i := 0) (v := .int .i64 0) rfl
            have f0 := hA.frozen 0
            have e1 := hA.cell (i := 1) (v := .int .i64 0) rfl
            have f1 := hA.frozen 1
            have e2 := hA.cell (i := 2) (v := .int .i64 0) rfl
            have f2 := hA.frozen 2
            have lA := hA.lt
            have lN := hN.lt
            go_simp
            refine hK.out _ _ (by (repeat' (first | (with_reducible exact Below.refl _ _) | (with_reducible refine Below.setCell ?_ (by (first | omega | (simp; done) | (simp; omega))) _) | (with_reducible refine Below.alloc ?_ (by (first | omega | (simp; done) | (simp; omega))) _) | (with_reducible refine Below.drew ?_) | (with_reducible refine below_drewN ?_ _) | (with_reducible refine Below.trans ?_ (Below.mono hHeld (by (first | omega | (simp; done) | (simp; omega)))))))) (fun hHeld => ?_)
            clear hK K
            clear e0 f0 e1 f1 e2 f2
            refine any_named (fun W => Below W0.heap.size W0 W ∧ Blk W v2.heap.size 23 (cellsT p) ∧ Blk W v1.heap.size 43 ([.int .i64 0, .int .i64 0, .int .i64 0, .int .i64 0, .int .i64 0, .int .i64 0, .int .i64 0, .int .i64 0, .int .i64 0])) ⟨hHeld, by (repeat' (first | (with_reducible exact hA) | (with_reducible refine BlkP.Blk.drew ?_) | (with_reducible refine BlkP.Blk.drewN ?_ _) | (with_reducible refine BlkP.Blk.setAt (us := ?_) (by first | omega | (simp; done) | (simp; omega)) rfl ?_ ?_) | (with_reducible refine BlkP.Blk.otherAt ?_ (by first | omega | (simp; done) | (simp; omega))) | (with_reducible refine BlkP.Blk.newA' (by first | omega | (simp; done) | (simp; omega)) rfl) | (with_reducible refine BlkP.Blk.alloc ?_ _) | (exact rfl))), by (repeat' (first | (with_reducible exact hN) | (with_reducible refine BlkP.Blk.drew ?_) | (with_reducible refine BlkP.Blk.drewN ?_ _) | (with_reducible refine BlkP.Blk.setAt (us := ?_) (by first | omega | (simp; done) | (simp; omega)) rfl ?_ ?_) | (with_reducible refine BlkP.Blk.otherAt ?_ (by first | omega | (simp; done) | (simp; omega))) | (with_reducible refine BlkP.Blk.newA' (by first | omega | (simp; done) | (simp; omega)) rfl) | (with_reducible refine BlkP.Blk.alloc ?_ _) | (exact rfl)))⟩ ?_
            clear hHeld hA hN
            rintro v4 ⟨hHeld, hA, hN⟩
            have hSv4 := hHeld.size
            refine wpAnyH_ready (rs := [6]) (by kernel_rfl) (by simp) ?_
            refine AllReadyH.cons (o := ⟨none, _, _, _, _, _⟩) rfl (fun K hK => ?_) ?_
            · have e0 := hN.cell (i := 0) (v := .int .i64 0) rfl
              have f0 := hN.frozen 0
              have e1 := hN.cell (i := 1) (v := .int .i64 0) rfl
              have f1 := hN.frozen 1
              have e2 := hN.cell (i := 2) (v := .int .i64 0) rfl
              have f2 := hN.frozen 2
              have e3 := hN.cell (i := 3) (v := .int .i64 0) rfl
              have f3 := hN.frozen 3
              have e4 := hN.cell (i := 4) (v := .int .i64 0) rfl
              have f4 := hN.frozen 4
              have e5 := hN.cell (i := 5) (v := .int .i64 0) rfl
              have f5 := hN.frozen 5
              have e6 := hN.cell (i := 6) (v := .int .i64 0) rfl
              have f6 := hN.frozen 6
              have e7 := hN.cell (i := 7) (v := .int .i64 0) rfl
              have f7 := hN.frozen 7
              have e8 := hN.cell (i := 8) (v := .int .i64 0) rfl
              have f8 := hN.frozen 8
              have lA := hA.lt
              have lN := hN.lt
              go_simp
              refine hK.out _ _ (by (repeat' (first | (with_reducible exact Below.refl _ _) | (with_reducible refine Below.setCell ?_ (by (first | omega | (simp; done) | (simp; omega))) _) | (with_reducible refine Below.alloc ?_ (by (first | omega | (simp; done) | (simp; omega))) _) | (with_reducible refine Below.drew ?_) | (with_reducible refine below_drewN ?_ _) | (with_reducible refine Below.trans ?_ (Below.mono hHeld (by (first | omega | (simp; done) | (simp; omega)))))))) (fun hHeld => ?_)
              clear hK K
              clear e0 f0 e1 f1 e2 f2 e3 f3 e4 f4 e5 f5 e6 f6 e7 f7 e8 f8
              refine any_named (fun W => Below W0.heap.size W0 W ∧ Blk W v2.heap.size 23 (cellsT p) ∧ Blk W v1.heap.size 43 (crAll d ⟨0, 0, 0⟩)) ⟨hHeld, by (repeat' (first | (with_reducible exact hA) | (with_reducible refine BlkP.Blk.drew ?_) | (with_reducible refine BlkP.Blk.drewN ?_ _) | (with_reducible refine BlkP.Blk.setAt (us := ?_) (by first | omega | (simp; done) | (simp; omega)) rfl ?_ ?_) | (with_reducible refine BlkP.Blk.otherAt ?_ (by first | omega | (simp; done) | (simp; omega))) | (with_reducible refine BlkP.Blk.newA' (by first | omega | (simp; done) | (simp; omega)) rfl) | (with_reducible refine BlkP.Blk.alloc ?_ _) | (exact rfl))), by (repeat' (first | (with_reducible exact hN) | (with_reducible refine BlkP.Blk.drew ?_) | (with_reducible refine BlkP.Blk.drewN ?_ _) | (with_reducible refine BlkP.Blk.setAt (us := ?_) (by first | omega | (simp; done) | (simp; omega)) rfl ?_ ?_) | (with_reducible refine BlkP.Blk.otherAt ?_ (by first | omega | (simp; done) | (simp; omega))) | (with_reducible refine BlkP.Blk.newA' (by first | omega | (simp; done) | (simp; omega)) rfl) | (with_reducible refine BlkP.Blk.alloc ?_ _) | (exact rfl)))⟩ ?_
              clear hHeld hA hN
              rintro v5 ⟨hHeld, hA, hN⟩
              have hSv5 := hHeld.size
              refine wpAnyH_done (by kernel_rfl) ?_ _
              refine NoPanic.normal ?_
              go_wp2_with fail
              go_meet
              case rel =>
                have hbW := HBW.out
                exact ⟨_, _, rfl, rfl, by omega, by omega, by omega, hA, hN, hbW.trans (hHeld.mono hbW.size)⟩
            exact AllReadyH.nil
          exact AllReadyH.nil
        exact AllReadyH.nil
      exact AllReadyH.nil
    refine AllReadyH.cons (o := ⟨some 9, _, _, _, _, _⟩) rfl (fun K hK => ?_) ?_
    · go_simp
      refine hK.out _ _ (hHeld.alloc hHeld.size _) (fun hHeld => ?_)
      clear hK K
      have sA : W0.heap.size ≤ v0.heap.size := hSv0
      refine any_named (fun W => Below W0.heap.size W0 W ∧ Blk W v0.heap.size 23 ([.int .i64 0, .int .i64 0, .int .i64 0])) ⟨hHeld, by (repeat' (first | (with_reducible refine BlkP.Blk.drew ?_) | (with_reducible refine BlkP.Blk.drewN ?_ _) | (with_reducible refine BlkP.Blk.setAt (us := ?_) (by first | omega | (simp; done) | (simp; omega)) rfl ?_ ?_) | (with_reducible refine BlkP.Blk.otherAt ?_ (by first | omega | (simp; done) | (simp; omega))) | (with_reducible refine BlkP.Blk.newA' (by first | omega | (simp; done) | (simp; omega)) rfl) | (with_reducible refine BlkP.Blk.alloc ?_ _) | (exact rfl)))⟩ ?_
      clear hHeld
      rintro v1 ⟨hHeld, hA⟩
      have hSv1 := hHeld.size
      refine wpAnyH_ready (rs := [2, 4]) (by kernel_rfl) (by simp) ?_
      refine AllReadyH.cons (o := ⟨some 32, _, _, _, _, _⟩) rfl (fun K hK => ?_) ?_
      · go_simp
        refine (HF.out _ (by have hbW := HBW.out; (repeat' (first | (with_reducible exact Below.refl _ _) | (with_reducible refine Below.setCell ?_ (by (first | omega | (simp; done) | (simp; omega))) _) | (with_reducible refine Below.alloc ?_ (by (first | omega | (simp; done) | (simp; omega))) _) | (with_reducible refine Below.drew ?_) | (with_reducible refine below_drewN ?_ _) | (with_reducible refine Below.trans ?_ (Below.mono hHeld (by (first | omega | (simp; done) | (simp; omega))))) | (with_reducible refine Below.trans ?_ (Below.mono hbW (by (first | omega | (simp; done) | (simp; omega))))))))).mono ?_
        rintro e wf ⟨rfl, hbf⟩
        go_wp2_with fail
        refine hK.out _ _ (below_t hHeld hbf) (fun hHeld => ?_)
        clear hK K
        refine any_named (fun W => Below W0.heap.size W0 W ∧ Blk W v0.heap.size 23 ([.int .i64 0, .int .i64 0, .int .i64 0])) ⟨hHeld, hA.below hbf⟩ ?_
        clear hHeld hA
        rintro v2 ⟨hHeld, hA⟩
        have hSv2 := hHeld.size
        refine wpAnyH_ready (rs := [4]) (by kernel_rfl) (by simp) ?_
        refine AllReadyH.cons (o := ⟨some 10, _, _, _, _, _⟩) rfl (fun K hK => ?_) ?_
        · go_simp
          refine hK.out _ _ (hHeld.alloc hHeld.size _) (fun hHeld => ?_)
          clear hK K
          have lA := hA.lt
          have sN : W0.heap.size ≤ v2.heap.size := hSv2
          refine any_named (fun W => Below W0.heap.size W0 W ∧ Blk W v0.heap.size 23 ([.int .i64 0, .int .i64 0, .int .i64 0]) ∧ Blk W v2.heap.size 43 ([.int .i64 0, .int .i64 0, .int .i64 0, .int .i64 0, .int .i64 0, .int .i64 0, .int .i64 0, .int .i64 0, .int .i64 0])) ⟨hHeld, by (repeat' (first | (with_reducible exact hA) | (with_reducible refine BlkP.Blk.drew ?_) | (with_reducible refine BlkP.Blk.drewN ?_ _) | (with_reducible refine BlkP.Blk.setAt (us := ?_) (by first | omega | (simp; done) | (simp; omega)) rfl ?_ ?_) | (with_reducible refine BlkP.Blk.otherAt ?_ (by first | omega | (simp; done) | (simp; omega))) | (with_reducible refine BlkP.Blk.newA' (by first | omega | (simp; done) | (simp; omega)) rfl) | (with_reducible refine BlkP.Blk.alloc ?_ _) | (exact rfl))), by (repeat' (first | (with_reducible refine BlkP.Blk.drew ?_) | (with_reducible refine BlkP.Blk.drewN ?_ _) | (with_reducible refine BlkP.Blk.setAt (us := ?_) (by first | omega | (simp; done) | (simp; omega)) rfl ?_ ?_) | (with_reducible refine BlkP.Blk.otherAt ?_ (by first | omega | (simp; done) | (simp; omega))) | (with_reducible refine BlkP.Blk.newA' (by first | omega | (simp; done) | (simp; omega)) rfl) | (with_reducible refine BlkP.Blk.alloc ?_ _) | (exact rfl)))⟩ ?_
          clear hHeld hA
          rintro v3 ⟨hHeld, hA, hN⟩
          have hSv3 := hHeld.size
          refine wpAnyH_ready (rs := [5]) (by kernel_rfl) (by simp) ?_
          refine AllReadyH.cons (o := ⟨none, _, _, _, _, _⟩) rfl (fun K hK => ?_) ?_
          · have e0 := hA.cell (i := 0) (v := .int .i64 0) rfl
            have f0 := hA.frozen 0
            have e1 := hA.cell (i := 1) (v := .int .i64 0) rfl
            have f1 := hA.frozen 1
            have e2 := hA.cell (i := 2) (v := .int .i64 0) rfl
            have f2 := hA.frozen 2
            have lA := hA.lt
            have lN := hN.lt
            go_simp
            refine hK.out _ _ (by (repeat' (first | (with_reducible exact Below.refl _ _) | (with_reducible refine Below.setCell ?_ (by (first | omega | (simp; done) | (simp; omega))) _) | (with_reducible refine Below.alloc ?_ (by (first | omega | (simp; done) | (simp; omega))) _) | (with_reducible refine Below.drew ?_) | (with_reducible refine below_drewN ?_ _) | (with_reducible refine Below.trans ?_ (Below.mono hHeld (by (first | omega | (simp; done) | (simp; omega)))))))) (fun hHeld => ?_)
            clear hK K
            clear e0 f0 e1 f1 e2 f2
            refine any_named (fun W => Below W0.heap.size W0 W ∧ Blk W v0.heap.size 23 (cellsT p) ∧ Blk W v2.heap.size 43 ([.int .i64 0, .int .i64 0, .int .i64 0, .int .i64 0, .int .i64 0, .int .i64 0, .int .i64 0, .int .i64 0, .int .i64 0])) ⟨hHeld, by (repeat' (first | (with_reducible exact hA) | (with_reducible refine BlkP.Blk.drew ?_) | (with_reducible refine BlkP.Blk.drewN ?_ _) | (with_reducible refine BlkP.Blk.setAt (us := ?_) (by first | omega | (simp; done) | (simp; omega)) rfl ?_ ?_) | (with_reducible refine BlkP.Blk.otherAt ?_ (by first | omega | (simp; done) | (simp; omega))) | (with_reducible refine BlkP.Blk.newA' (by first | omega | (simp; done) | (simp; omega)) rfl) | (with_reducible refine BlkP.Blk.alloc ?_ _) | (exact rfl))), by (repeat' (first | (with_reducible exact hN) | (with_reducible refine BlkP.Blk.drew ?_) | (with_reducible refine BlkP.Blk.drewN ?_ _) | (with_reducible refine BlkP.Blk.setAt (us := ?_) (by first | omega | (simp; done) | (simp; omega)) rfl ?_ ?_) | (with_reducible refine BlkP.Blk.otherAt ?_ (by first | omega | (simp; done) | (simp; omega))) | (with_reducible refine BlkP.Blk.newA' (by first | omega | (simp; done) | (simp; omega)) rfl) | (with_reducible refine BlkP.Blk.alloc ?_ _) | (exact rfl)))⟩ ?_
            clear hHeld hA hN
            rintro v4 ⟨hHeld, hA, hN⟩
            have hSv4 := hHeld.size
            refine wpAnyH_ready (rs := [6]) (by kernel_rfl) (by simp) ?_
            refine AllReadyH.cons (o := ⟨none, _, _, _, _, _⟩) rfl (fun K hK => ?_) ?_
            · have e0 := hN.cell (i := 0) (v := .int .i64 0) rfl
              have f0 := hN.frozen 0
              have e1 := hN.cell (i := 1) (v := .int .i64 0) rfl
              have f1 := hN.frozen 1
              have e2 := hN.cell (i := 2) (v := .int .i64 0) rfl
              have f2 := hN.frozen 2
              have e3 := hN.cell (i := 3) (v := .int .i64 0) rfl
              have f3 := hN.frozen 3
              have e4 := hN.cell (i := 4) (v := .int .i64 0) rfl
              have f4 := hN.frozen 4
              have e5 := hN.cell (i := 5) (v := .int .i64 0) rfl
              have f5 := hN.frozen 5
              have e6 := hN.cell (i := 6) (v := .int .i64 0) rfl
              have f6 := hN.frozen 6
              have e7 := hN.cell (i := 7) (v := .int .i64 0) rfl
              have f7 := hN.frozen 7
              have e8 := hN.cell (i := 8) (v := .int .i64 0) rfl
              have f8 := hN.frozen 8
              have lA := hA.lt
              have lN := hN.lt
              go_simp
              refine hK.out _ _ (by (repeat' (first | (with_reducible exact Below.refl _ _) | (with_reducible refine Below.setCell ?_ (by (first | omega | (simp; done) | (simp; omega))) _) | (with_reducible refine Below.alloc ?_ (by (first | omega | (simp; done) | (simp; omega))) _) | (with_reducible refine Below.drew ?_) | (with_reducible refine below_drewN ?_ _) | (with_reducible refine Below.trans ?_ (Below.mono hHeld (by (first | omega | (simp; done) | (simp; omega)))))))) (fun hHeld => ?_)
              clear hK K
              clear e0 f0 e1 f1 e2 f2 e3 f3 e4 f4 e5 f5 e6 f6 e7 f7 e8 f8
              refine any_named (fun W => Below W0.heap.size W0 W ∧ Blk W v0.heap.size 23 (cellsT p) ∧ Blk W v2.heap.size 43 (crAll d ⟨0, 0, 0⟩)) ⟨hHeld, by (repeat' (first | (with_reducible exact hA) | (with_reducible refine BlkP.Blk.drew ?_) | (with_reducible refine BlkP.Blk.drewN ?_ _) | (with_reducible refine BlkP.Blk.setAt (us := ?_) (by first | omega | (simp; done) | (simp; omega)) rfl ?_ ?_) | (with_reducible refine BlkP.Blk.otherAt ?_ (by first | omega | (simp; done) | (simp; omega))) | (with_reducible refine BlkP.Blk.newA' (by first | omega | (simp; done) | (simp; omega)) rfl) | (with_reducible refine BlkP.Blk.alloc ?_ _) | (exact rfl))), by (repeat' (first | (with_reducible exact hN) | (with_reducible refine BlkP.Blk.drew ?_) | (with_reducible refine BlkP.Blk.drewN ?_ _) | (with_reducible refine BlkP.Blk.setAt (us := ?_) (by first | omega | (simp; done) | (simp; omega)) rfl ?_ ?_) | (with_reducible refine BlkP.Blk.otherAt ?_ (by first | omega | (simp; done) | (simp; omega))) | (with_reducible refine BlkP.Blk.newA' (by first | omega | (simp; done) | (simp; omega)) rfl) | (with_reducible refine BlkP.Blk.alloc ?_ _) | (exact rfl)))⟩ ?_
              clear hHeld hA hN
              rintro v5 ⟨hHeld, hA, hN⟩
              have hSv5 := hHeld.size
              refine wpAnyH_done (by kernel_rfl) ?_ _
              refine NoPanic.normal ?_
              go_wp2_with fail
              go_meet
              case rel =>
                have hbW := HBW.out
                exact ⟨_, _, rfl, rfl, by omega, by omega, by omega, hA, hN, hbW.trans (hHeld.mono hbW.size)⟩
            exact AllReadyH.nil
          exact AllReadyH.nil
        exact AllReadyH.nil
      refine AllReadyH.cons (o := ⟨some 10, _, _, _, _, _⟩) rfl (fun K hK => ?_) ?_
      · go_simp
        refine hK.out _ _ (hHeld.alloc hHeld.size _) (fun hHeld => ?_)
        clear hK K
        have lA := hA.lt
        have sN : W0.heap.size ≤ v1.heap.size := hSv1
        refine any_named (fun W => Below W0.heap.size W0 W ∧ Blk W v0.heap.size 23 ([.int .i64 0, .int .i64 0, .int .i64 0]) ∧ Blk W v1.heap.size 43 ([.int .i64 0, .int .i64 0, .int .i64 0, .int .i64 0, .int .i64 0, .int .i64 0, .int .i64 0, .int .i64 0, .int .i64 0])) ⟨hHeld, by (repeat' (first | (with_reducible exact hA) | (with_reducible refine BlkP.Blk.drew ?_) | (with_reducible refine BlkP.Blk.drewN ?_ _) | (with_reducible refine BlkP.Blk.setAt (us := ?_) (by first | omega | (simp; done) | (simp; omega)) rfl ?_ ?_) | (with_reducible refine BlkP.Blk.otherAt ?_ (by first | omega | (simp; done) | (simp; omega))) | (with_reducible refine BlkP.Blk.newA' (by first | omega | (simp; done) | (simp; omega)) rfl) | (with_reducible refine BlkP.Blk.alloc ?_ _) | (exact rfl))), by (repeat' (first | (with_reducible refine BlkP.Blk.drew ?_) | (with_reducible refine BlkP.Blk.drewN ?_ _) | (with_reducible refine BlkP.Blk.setAt (us := ?_) (by first | omega | (simp; done) | (simp; omega)) rfl ?_ ?_) | (with_reducible refine BlkP.Blk.otherAt ?_ (by first | omega | (simp; done) | (simp; omega))) | (with_reducible refine BlkP.Blk.newA' (by first | omega | (simp; done) | (simp; omega)) rfl) | (with_reducible refine BlkP.Blk.alloc ?_ _) | (exact rfl)))⟩ ?_
        clear hHeld hA
        rintro v2 ⟨hHeld, hA, hN⟩
        have hSv2 := hHeld.size
        refine wpAnyH_ready (rs := [2]) (by kernel_rfl) (by simp) ?_
        refine AllReadyH.cons (o := ⟨some 32, _, _, _, _, _⟩) rfl (fun K hK => ?_) ?_
        · go_simp
          refine (HF.out _ (by have hbW := HBW.out; (repeat' (first | (with_reducible exact Below.refl _ _) | (with_reducible refine Below.setCell ?_ (by (first | omega | (simp; done) | (simp; omega))) _) | (with_reducible refine Below.alloc ?_ (by (first | omega | (simp; done) | (simp; omega))) _) | (with_reducible refine Below.drew ?_) | (with_reducible refine below_drewN ?_ _) | (with_reducible refine Below.trans ?_ (Below.mono hHeld (by (first | omega | (simp; done) | (simp; omega))))) | (with_reducible refine Below.trans ?_ (Below.mono hbW (by (first | omega | (simp; done) | (simp; omega))))))))).mono ?_
          rintro e wf ⟨rfl, hbf⟩
          go_wp2_with fail
          refine hK.out _ _ (below_t hHeld hbf) (fun hHeld => ?_)
          clear hK K
          refine any_named (fun W => Below W0.heap.size W0 W ∧ Blk W v0.heap.size 23 ([.int .i64 0, .int .i64 0, .int .i64 0]) ∧ Blk W v1.heap.size 43 ([.int .i64 0, .int .i64 0, .int .i64 0, .int .i64 0, .int .i64 0, .int .i64 0, .int .i64 0, .int .i64 0, .int .i64 0])) ⟨hHeld, hA.below hbf, hN.below hbf⟩ ?_
          clear hHeld hA hN
          rintro v3 ⟨hHeld, hA, hN⟩
          have hSv3 := hHeld.size
          refine wpAnyH_ready (rs := [5]) (by kernel_rfl) (by simp) ?_
          refine AllReadyH.cons (o := ⟨none, _, _, _, _, _⟩) rfl (fun K hK => ?_) ?_
          · have e0 := hA.cell (i := 0) (v := .int .i64 0) rfl
            have f0 := hA.frozen 0
            have e1 := hA.cell (i := 1) (v := .int .i64 0) rfl
            have f1 := hA.frozen 1
            have e2 := hA.cell (i := 2) (v := .int .i64 0) rfl
            have f2 := hA.frozen 2
            have lA := hA.lt
            have lN := hN.lt
            go_simp
            refine hK.out _ _ (by (repeat' (first | (with_reducible exact Below.refl _ _) | (with_reducible refine Below.setCell ?_ (by (first | omega | (simp; done) | (simp; omega))) _) | (with_reducible refine Below.alloc ?_ (by (first | omega | (simp; done) | (simp; omega))) _) | (with_reducible refine Below.drew ?_) | (with_reducible refine below_drewN ?_ _) | (with_reducible refine Below.trans ?_ (Below.mono hHeld (by (first | omega | (simp; done) | (simp; omega)))))))) (fun hHeld => ?_)
            clear hK K
            clear e0 f0 e1 f1 e2 f2
            refine any_named (fun W => Below W0.heap.size W0 W ∧ Blk W v0.heap.size 23 (cellsT p) ∧ Blk W v1.heap.size 43 ([.int .i64 0, .int .i64 0, .int .i64 0, .int .i64 0, .int .i64 0, .int .i64 0, .int .i64 0, .int .i64 0, .int .i64 0])) ⟨hHeld, by (repeat' (first | (with_reducible exact hA) | (with_reducible refine BlkP.Blk.drew ?_) | (with_reducible refine BlkP.Blk.drewN ?_ _) | (with_reducible refine BlkP.Blk.setAt (us := ?_) (by first | omega | (simp; done) | (simp; omega)) rfl ?_ ?_) | (with_reducible refine BlkP.Blk.otherAt ?_ (by first | omega | (simp; done) | (simp; omega))) | (with_reducible refine BlkP.Blk.newA' (by first | omega | (simp; done) | (simp; omega)) rfl) | (with_reducible refine BlkP.Blk.alloc ?_ _) | (exact rfl))), by (repeat' (first | (with_reducible exact hN) | (with_reducible refine BlkP.Blk.drew ?_) | (with_reducible refine BlkP.Blk.drewN ?_ _) | (with_reducible refine BlkP.Blk.setAt (us := ?_) (by first | omega | (simp; done) | (simp; omega)) rfl ?_ ?_) | (with_reducible refine BlkP.Blk.otherAt ?_ (by first | omega | (simp; done) | (simp; omega))) | (with_reducible refine BlkP.Blk.newA' (by first | omega | (simp; done) | (simp; omega)) rfl) | (with_reducible refine BlkP.Blk.alloc ?_ _) | (exact rfl)))⟩ ?_
            clear hHeld hA hN
            rintro v4 ⟨hHeld, hA, hN⟩
            have hSv4 := hHeld.size
            refine wpAnyH_ready (rs := [6]) (by kernel_rfl) (by simp) ?_
            refine AllReadyH.cons (o := ⟨none, _, _, _, _, _⟩) rfl (fun K hK => ?_) ?_
            · have e0 := hN.cell (i := 0) (v := .int .i64 0) rfl
              have f0 := hN.frozen 0
              have e1 := hN.cell (i := 1) (v := .int .i64 0) rfl
              have f1 := hN.frozen 1
              have e2 := hN.cell (i := 2) (v := .int .i64 0) rfl
              have f2 := hN.frozen 2
              have e3 := hN.cell (i := 3) (v := .int .i64 0) rfl
              have f3 := hN.frozen 3
              have e4 := hN.cell (i := 4) (v := .int .i64 0) rfl
              have f4 := hN.frozen 4
              have e5 := hN.cell (i := 5) (v := .int .i64 0) rfl
              have f5 := hN.frozen 5
              have e6 := hN.cell (i := 6) (v := .int .i64 0) rfl
              have f6 := hN.frozen 6
              have e7 := hN.cell (i := 7) (v := .int .i64 0) rfl
              have f7 := hN.frozen 7
              have e8 := hN.cell (i := 8) (v := .int .i64 0) rfl
              have f8 := hN.frozen 8
              have lA := hA.lt
              have lN := hN.lt
              go_simp
              refine hK.out _ _ (by (repeat' (first | (with_reducible exact Below.refl _ _) | (with_reducible refine Below.setCell ?_ (by (first | omega | (simp; done) | (simp; omega))) _) | (with_reducible refine Below.alloc ?_ (by (first | omega | (simp; done) | (simp; omega))) _) | (with_reducible refine Below.drew ?_) | (with_reducible refine below_drewN ?_ _) | (with_reducible refine Below.trans ?_ (Below.mono hHeld (by (first | omega | (simp; done) | (simp; omega)))))))) (fun hHeld => ?_)
              clear hK K
              clear e0 f0 e1 f1 e2 f2 e3 f3 e4 f4 e5 f5 e6 f6 e7 f7 e8 f8
              refine any_named (fun W => Below W0.heap.size W0 W ∧ Blk W v0.heap.size 23 (cellsT p) ∧ Blk W v1.heap.size 43 (crAll d ⟨0, 0, 0⟩)) ⟨hHeld, by (repeat' (first | (with_reducible exact hA) | (with_reducible refine BlkP.Blk.drew ?_) | (with_reducible refine BlkP.Blk.drewN ?_ _) | (with_reducible refine BlkP.Blk.setAt (us := ?_) (by first | omega | (simp; done) | (simp; omega)) rfl ?_ ?_) | (with_reducible refine BlkP.Blk.otherAt ?_ (by first | omega | (simp; done) | (simp; omega))) | (with_reducible refine BlkP.Blk.newA' (by first | omega | (simp; done) | (simp; omega)) rfl) | (with_reducible refine BlkP.Blk.alloc ?_ _) | (exact rfl))), by (repeat' (first | (with_reducible exact hN) | (with_reducible refine BlkP.Blk.drew ?_) | (with_reducible refine BlkP.Blk.drewN ?_ _) | (with_reducible refine BlkP.Blk.setAt (us := ?_) (by first | omega | (simp; done) | (simp; omega)) rfl ?_ ?_) | (with_reducible refine BlkP.Blk.otherAt ?_ (by first | omega | (simp; done) | (simp; omega))) | (with_reducible refine BlkP.Blk.newA' (by first | omega | (simp; done) | (simp; omega)) rfl) | (with_reducible refine BlkP.Blk.alloc ?_ _) | (exact rfl)))⟩ ?_
              clear hHeld hA hN
              rintro v5 ⟨hHeld, hA, hN⟩
              have hSv5 := hHeld.size
              refine wpAnyH_done (by kernel_rfl) ?_ _
              refine NoPanic.normal ?_
              go_wp2_with fail
              go_meet
              case rel =>
                have hbW := HBW.out
                exact ⟨_, _, rfl, rfl, by omega, by omega, by omega, hA, hN, hbW.trans (hHeld.mono hbW.size)⟩
            exact AllReadyH.nil
          exact AllReadyH.nil
        exact AllReadyH.nil
      exact AllReadyH.nil
    refine AllReadyH.cons (o := ⟨some 10, _, _, _, _, _⟩) rfl (fun K hK => ?_) ?_
    · go_simp
      refine hK.out _ _ (hHeld.alloc hHeld.size _) (fun hHeld => ?_)
      clear hK K
      have sN : W0.heap.size ≤ v0.heap.size := hSv0
      refine any_named (fun W => Below W0.heap.size W0 W ∧ Blk W v0.heap.size 43 ([.int .i64 0, .int .i64 0, .int .i64 0, .int .i64 0, .int .i64 0, .int .i64 0, .int .i64 0, .int .i64 0, .int .i64 0])) ⟨hHeld, by (repeat' (first | (with_reducible refine BlkP.Blk.drew ?_) | (with_reducible refine BlkP.Blk.drewN ?_ _) | (with_reducible refine BlkP.Blk.setAt (us := ?_) (by first | omega | (simp; done) | (simp; omega)) rfl ?_ ?_) | (with_reducible refine BlkP.Blk.otherAt ?_ (by first | omega | (simp; done) | (simp; omega))) | (with_reducible refine BlkP.Blk.newA' (by first | omega | (simp; done) | (simp; omega)) rfl) | (with_reducible refine BlkP.Blk.alloc ?_ _) | (exact rfl)))⟩ ?_
      clear hHeld
      rintro v1 ⟨hHeld, hN⟩
      have hSv1 := hHeld.size
      refine wpAnyH_ready (rs := [2, 3]) (by kernel_rfl) (by simp) ?_
      refine AllReadyH.cons (o := ⟨some 32, _, _, _, _, _⟩) rfl (fun K hK => ?_) ?_
      · go_simp
        refine (HF.out _ (by have hbW := HBW.out; (repeat' (first | (with_reducible exact Below.refl _ _) | (with_reducible refine Below.setCell ?_ (by (first | omega | (simp; done) | (simp; omega))) _) | (with_reducible refine Below.alloc ?_ (by (first | omega | (simp; done) | (simp; omega))) _) | (with_reducible refine Below.drew ?_) | (with_reducible refine below_drewN ?_ _) | (with_reducible refine Below.trans ?_ (Below.mono hHeld (by (first | omega | (simp; done) | (simp; omega))))) | (with_reducible refine Below.trans ?_ (Below.mono hbW (by (first | omega | (simp; done) | (simp; omega))))))))).mono ?_
        rintro e wf ⟨rfl, hbf⟩
        go_wp2_with fail
        refine hK.out _ _ (below_t hHeld hbf) (fun hHeld => ?_)
        clear hK K
        refine any_named (fun W => Below W0.heap.size W0 W ∧ Blk W v0.heap.size 43 ([.int .i64 0, .int .i64 0, .int .i64 0, .int .i64 0, .int .i64 0, .int .i64 0, .int .i64 0, .int .i64 0, .int .i64 0])) ⟨hHeld, hN.below hbf⟩ ?_
        clear hHeld hN
        rintro v2 ⟨hHeld, hN⟩
        have hSv2 := hHeld.size
        refine wpAnyH_ready (rs := [3]) (by kernel_rfl) (by simp) ?_
        refine AllReadyH.cons (o := ⟨some 9, _, _, _, _, _⟩) rfl (fun K hK => ?_) ?_
        · go_simp
          refine hK.out _ _ (hHeld.alloc hHeld.size _) (fun hHeld => ?_)
          clear hK K
          have lN := hN.lt
          have sA : W0.heap.size ≤ v2.heap.size := hSv2
          refine any_named (fun W => Below W0.heap.size W0 W ∧ Blk W v2.heap.size 23 ([.int .i64 0, .int .i64 0, .int .i64 0]) ∧ Blk W v0.heap.size 43 ([.int .i64 0, .int .i64 0, .int .i64 0, .int .i64 0, .int .i64 0, .int .i64 0, .int .i64 0, .int .i64 0, .int .i64 0])) ⟨hHeld, by (repeat' (first | (with_reducible refine BlkP.Blk.drew ?_) | (with_reducible refine BlkP.Blk.drewN ?_ _) | (with_reducible refine BlkP.Blk.setAt (us := ?_) (by first | omega | (simp; done) | (simp; omega)) rfl ?_ ?_) | (with_reducible refine BlkP.Blk.otherAt ?_ (by first | omega | (simp; done) | (simp; omega))) | (with_reducible refine BlkP.Blk.newA' (by first | omega | (simp; done) | (simp; omega)) rfl) | (with_reducible refine BlkP.Blk.alloc ?_ _) | (exact rfl))), by (repeat' (first | (with_reducible exact hN) | (with_reducible refine BlkP.Blk.drew ?_) | (with_reducible refine BlkP.Blk.drewN ?_ _) | (with_reducible refine BlkP.Blk.setAt (us := ?_) (by first | omega | (simp; done) | (simp; omega)) rfl ?_ ?_) | (with_reducible refine BlkP.Blk.otherAt ?_ (by first | omega | (simp; done) | (simp; omega))) | (with_reducible refine BlkP.Blk.newA' (by first | omega | (simp; done) | (simp; omega)) rfl) | (with_reducible refine BlkP.Blk.alloc ?_ _) | (exact rfl)))⟩ ?_
          clear hHeld hN
          rintro v3 ⟨hHeld, hA, hN⟩
          have hSv3 := hHeld.size
          refine wpAnyH_ready (rs := [5]) (by kernel_rfl) (by simp) ?_
          refine AllReadyH.cons (o := ⟨none, _, _, _, _, _⟩) rfl (fun K hK => ?_) ?_
          · have e0 := hA.cell (i := 0) (v := .int .i64 0) rfl
            have f0 := hA.frozen 0
            have e1 := hA.cell (i := 1) (v := .int .i64 0) rfl
            have f1 := hA.frozen 1
            have e2 := hA.cell (i := 2) (v := .int .i64 0) rfl
            have f2 := hA.frozen 2
            have lA := hA.lt
            have lN := hN.lt
            go_simp
            refine hK.out _ _ (by (repeat' (first | (with_reducible exact Below.refl _ _) | (with_reducible refine Below.setCell ?_ (by (first | omega | (simp; done) | (simp; omega))) _) | (with_reducible refine Below.alloc ?_ (by (first | omega | (simp; done) | (simp; omega))) _) | (with_reducible refine Below.drew ?_) | (with_reducible refine below_drewN ?_ _) | (with_reducible refine Below.trans ?_ (Below.mono hHeld (by (first | omega | (simp; done) | (simp; omega)))))))) (fun hHeld => ?_)
            clear hK K
            clear e0 f0 e1 f1 e2 f2
            refine any_named (fun W => Below W0.heap.size W0 W ∧ Blk W v2.heap.size 23 (cellsT p) ∧ Blk W v0.heap.size 43 ([.int .i64 0, .int .i64 0, .int .i64 0, .int .i64 0, .int .i64 0, .int .i64 0, .int .i64 0, .int .i64 0, .int .i64 0])) ⟨hHeld, by (repeat' (first | (with_reducible exact hA) | (with_reducible refine BlkP.Blk.drew ?_) | (with_reducible refine BlkP.Blk.drewN ?_ _) | (with_reducible refine BlkP.Blk.setAt (us := ?_) (by first | omega | (simp; done) | (simp; omega)) rfl ?_ ?_) | (with_reducible refine BlkP.Blk.otherAt ?_ (by first | omega | (simp; done) | (simp; omega))) | (with_reducible refine BlkP.Blk.newA' (by first | omega | (simp; done) | (simp; omega)) rfl) | (with_reducible refine BlkP.Blk.alloc ?_ _) | (exact rfl))), by (repeat' (first | (with_reducible exact hN) | (with_reducible refine BlkP.Blk.drew ?_) | (with_reducible refine BlkP.Blk.drewN ?_ _) | (with_reducible refine BlkP.Blk.setAt (us := ?_) (by first | omega | (simp; done) | (simp; omega)) rfl ?_ ?_) | (with_reducible refine BlkP.Blk.otherAt ?_ (by first | omega | (simp; done) | (simp; omega))) | (with_reducible refine BlkP.Blk.newA' (by first | omega | (simp; done) | (simp; omega)) rfl) | (with_reducible refine BlkP.Blk.alloc ?_ _) | (exact rfl)))⟩ ?_
            clear hHeld hA hN
            rintro v4 ⟨hHeld, hA, hN⟩
            have hSv4 := hHeld.size
            refine wpAnyH_ready (rs := [6]) (by kernel_rfl) (by simp) ?_
            refine AllReadyH.cons (o := ⟨none, _, _, _, _, _⟩) rfl (fun K hK => ?_) ?_
            · have e0 := hN.cell (i := 0) (v := .int .i64 0) rfl
              have f0 := hN.frozen 0
              have e1 := hN.cell (i := 1) (v := .int .i64 0) rfl
              have f1 := hN.frozen 1
              have e2 := hN.cell (i := 2) (v := .int .i64 0) rfl
              have f2 := hN.frozen 2
              have e3 := hN.cell (i := 3) (v := .int .i64 0) rfl
              have f3 := hN.frozen 3
              have e4 := hN.cell (i := 4) (v := .int .i64 0) rfl
              have f4 := hN.frozen 4
              have e5 := hN.cell (i := 5) (v := .int .i64 0) rfl
              have f5 := hN.frozen 5
              have e6 := hN.cell (i := 6) (v := .int .i64 0) rfl
              have f6 := hN.frozen 6
              have e7 := hN.cell (i := 7) (v := .int .i64 0) rfl
              have f7 := hN.frozen 7
              have e8 := hN.cell (i := 8) (v := .int .i64 0) rfl
              have f8 := hN.frozen 8
              have lA := hA.lt
              have lN := hN.lt
              go_simp
              refine hK.out _ _ (by (repeat' (first | (with_reducible exact Below.refl _ _) | (with_reducible refine Below.setCell ?_ (by (first | omega | (simp; done) | (simp; omega))) _) | (with_reducible refine Below.alloc ?_ (by (first | omega | (simp; done) | (simp; omega))) _) | (with_reducible refine Below.drew ?_) | (with_reducible refine below_drewN ?_ _) | (with_reducible refine Below.trans ?_ (Below.mono hHeld (by (first | omega | (simp; done) | (simp; omega)))))))) (fun hHeld => ?_)
              clear hK K
              clear e0 f0 e1 f1 e2 f2 e3 f3 e4 f4 e5 f5 e6 f6 e7 f7 e8 f8
              refine any_named (fun W => Below W0.heap.size W0 W ∧ Blk W v2.heap.size 23 (cellsT p) ∧ Blk W v0.heap.size 43 (crAll d ⟨0, 0, 0⟩)) ⟨hHeld, by (repeat' (first | (with_reducible exact hA) | (with_reducible refine BlkP.Blk.drew ?_) | (with_reducible refine BlkP.Blk.drewN ?_ _) | (with_reducible refine BlkP.Blk.setAt (us := ?_) (by first | omega | (simp; done) | (simp; omega)) rfl ?_ ?_) | (with_reducible refine BlkP.Blk.otherAt ?_ (by first | omega | (simp; done) | (simp; omega))) | (with_reducible refine BlkP.Blk.newA' (by first | omega | (simp; done) | (simp; omega)) rfl) | (with_reducible refine BlkP.Blk.alloc ?_ _) | (exact rfl))), by (repeat' (first | (with_reducible exact hN) | (with_reducible refine BlkP.Blk.drew ?_) | (with_reducible refine BlkP.Blk.drewN ?_ _) | (with_reducible refine BlkP.Blk.setAt (us := ?_) (by first | omega | (simp; done) | (simp; omega)) rfl ?_ ?_) | (with_reducible refine BlkP.Blk.otherAt ?_ (by first | omega | (simp; done) | (simp; omega))) | (with_reducible refine BlkP.Blk.newA' (by first | omega | (simp; done) | (simp; omega)) rfl) | (with_reducible refine BlkP.Blk.alloc ?_ _) | (exact rfl)))⟩ ?_
              clear hHeld hA hN
              rintro v5 ⟨hHeld, hA, hN⟩
              have hSv5 := hHeld.size
              refine wpAnyH_done (by kernel_rfl) ?_ _
              refine NoPanic.normal ?_
              go_wp2_with fail
              go_meet
              case rel =>
                have hbW := HBW.out
                exact ⟨_, _, rfl, rfl, by omega, by omega, by omega, hA, hN, hbW.trans (hHeld.mono hbW.size)⟩
            exact AllReadyH.nil
          exact AllReadyH.nil
        exact AllReadyH.nil
      refine AllReadyH.cons (o := ⟨some 9, _, _, _, _, _⟩) rfl (fun K hK => ?_) ?_
      · go_simp
        refine hK.out _ _ (hHeld.alloc hHeld.size _) (fun hHeld => ?_)
        clear hK K
        have lN := hN.lt
        have sA : W0.heap.size ≤ v1.heap.size := hSv1
        refine any_named (fun W => Below W0.heap.size W0 W ∧ Blk W v1.heap.size 23 ([.int .i64 0, .int .i64 0, .int .i64 0]) ∧ Blk W v0.heap.size 43 ([.int .i64 0, .int .i64 0, .int .i64 0, .int .i64 0, .int .i64 0, .int .i64 0, .int .i64 0, .int .i64 0, .int .i64 0])) ⟨hHeld, by (repeat' (first | (with_reducible refine BlkP.Blk.drew ?_) | (with_reducible refine BlkP.Blk.drewN ?_ _) | (with_reducible refine BlkP.Blk.setAt (us := ?_) (by first | omega | (simp; done) | (simp; omega)) rfl ?_ ?_) | (with_reducible refine BlkP.Blk.otherAt ?_ (by first | omega | (simp; done) | (simp; omega))) | (with_reducible refine BlkP.Blk.newA' (by first | omega | (simp; done) | (simp; omega)) rfl) | (with_reducible refine BlkP.Blk.alloc ?_ _) | (exact rfl))), by (repeat' (first | (with_reducible exact hN) | (with_reducible refine BlkP.Blk.drew ?_) | (with_reducible refine BlkP.Blk.drewN ?_ _) | (with_reducible refine BlkP.Blk.setAt (us := ?_) (by first | omega | (simp; done) | (simp; omega)) rfl ?_ ?_) | (with_reducible refine BlkP.Blk.otherAt ?_ (by first | omega | (simp; done) | (simp; omega))) | (with_reducible refine BlkP.Blk.newA' (by first | omega | (simp; done) | (simp; omega)) rfl) | (with_reducible refine BlkP.Blk.alloc ?_ _) | (exact rfl)))⟩ ?_
        clear hHeld hN
        rintro v2 ⟨hHeld, hA, hN⟩
        have hSv2 := hHeld.size
        refine wpAnyH_ready (rs := [2]) (by kernel_rfl) (by simp) ?_
        refine AllReadyH.cons (o := ⟨some 32, _, _, _, _, _⟩) rfl (fun K hK => ?_) ?_
        · go_simp
          refine (HF.out _ (by have hbW := HBW.out; (repeat' (first | (with_reducible exact Below.refl _ _) | (with_reducible refine Below.setCell ?_ (by (first | omega | (simp; done) | (simp; omega))) _) | (with_reducible refine Below.alloc ?_ (by (first | omega | (simp; done) | (simp; omega))) _) | (with_reducible refine Below.drew ?_) | (with_reducible refine below_drewN ?_ _) | (with_reducible refine Below.trans ?_ (Below.mono hHeld (by (first | omega | (simp; done) | (simp; omega))))) | (with_reducible refine Below.trans ?_ (Below.mono hbW (by (first | omega | (simp; done) | (simp; omega))))))))).mono ?_
          rintro e wf ⟨rfl, hbf⟩
          go_wp2_with fail
          refine hK.out _ _ (below_t hHeld hbf) (fun hHeld => ?_)
          clear hK K
          refine any_named (fun W => Below W0.heap.size W0 W ∧ Blk W v1.heap.size 23 ([.int .i64 0, .int .i64 0, .int .i64 0]) ∧ Blk W v0.heap.size 43 ([.int .i64 0, .int .i64 0, .int .i64 0, .int .i64 0, .int .i64 0, .int .i64 0, .int .i64 0, .int .i64 0, .int .i64 0])) ⟨hHeld, hA.below hbf, hN.below hbf⟩ ?_
          clear hHeld hA hN
          rintro v3 ⟨hHeld, hA, hN⟩
          have hSv3 := hHeld.size
          refine wpAnyH_ready (rs := [5]) (by kernel_rfl) (by simp) ?_
          refine AllReadyH.cons (o := ⟨none, _, _, _, _, _⟩) rfl (fun K hK => ?_) ?_
          · have e0 := hA.cell (i := 0) (v := .int .i64 0) rfl
            have f0 := hA.frozen 0
            have e1 := hA.cell (i := 1) (v := .int .i64 0) rfl
            have f1 := hA.frozen 1
            have e2 := hA.cell (i := 2) (v := .int .i64 0) rfl
            have f2 := hA.frozen 2
            have lA := hA.lt
            have lN := hN.lt
            go_simp
            refine hK.out _ _ (by (repeat' (first | (with_reducible exact Below.refl _ _) | (with_reducible refine Below.setCell ?_ (by (first | omega | (simp; done) | (simp; omega))) _) | (with_reducible refine Below.alloc ?_ (by (first | omega | (simp; done) | (simp; omega))) _) | (with_reducible refine Below.drew ?_) | (with_reducible refine below_drewN ?_ _) | (with_reducible refine Below.trans ?_ (Below.mono hHeld (by (first | omega | (simp; done) | (simp; omega)))))))) (fun hHeld => ?_)
            clear hK K
            clear e0 f0 e1 f1 e2 f2
            refine any_named (fun W => Below W0.heap.size W0 W ∧ Blk W v1.heap.size 23 (cellsT p) ∧ Blk W v0.heap.size 43 ([.int .i64 0, .int .i64 0, .int .i64 0, .int .i64 0, .int .i64 0, .int .i64 0, .int .i64 0, .int .i64 0, .int .i64 0])) ⟨hHeld, by (repeat' (first | (with_reducible exact hA) | (with_reducible refine BlkP.Blk.drew ?_) | (with_reducible refine BlkP.Blk.drewN ?_ _) | (with_reducible refine BlkP.Blk.setAt (us := ?_) (by first | omega | (simp; done) | (simp; omega)) rfl ?_ ?_) | (with_reducible refine BlkP.Blk.otherAt ?_ (by first | omega | (simp; done) | (simp; omega))) | (with_reducible refine BlkP.Blk.newA' (by first | omega | (simp; done) | (simp; omega)) rfl) | (with_reducible refine BlkP.Blk.alloc ?_ _) | (exact rfl))), by (repeat' (first | (with_reducible exact hN) | (with_reducible refine BlkP.Blk.drew ?_) | (with_reducible refine BlkP.Blk.drewN ?_ _) | (with_reducible refine BlkP.Blk.setAt (us := ?_) (by first | omega | (simp; done) | (simp; omega)) rfl ?_ ?_) | (with_reducible refine BlkP.Blk.otherAt ?_ (by first | omega | (simp; done) | (simp; omega))) | (with_reducible refine BlkP.Blk.newA' (by first | omega | (simp; done) | (simp; omega)) rfl) | (with_reducible refine BlkP.Blk.alloc ?_ _) | (exact rfl)))⟩ ?_
            clear hHeld hA hN
            rintro v4 ⟨hHeld, hA, hN⟩
            have hSv4 := hHeld.size
            refine wpAnyH_ready (rs := [6]) (by kernel_rfl) (by simp) ?_
            refine AllReadyH.cons (o := ⟨none, _, _, _, _, _⟩) rfl (fun K hK => ?_) ?_
            · have e0 := hN.cell (i := 0) (v := .int .i64 0) rfl
              have f0 := hN.frozen 0
              have e1 := hN.cell (i := 1) (v := .int .i64 0) rfl
              have f1 := hN.frozen 1
              have e2 := hN.cell (i := 2) (v := .int .i64 0) rfl
              have f2 := hN.frozen 2
              have e3 := hN.cell (i := 3) (v := .int .i64 0) rfl
              have f3 := hN.frozen 3
              have e4 := hN.cell (i := 4) (v := .int .i64 0) rfl
              have f4 := hN.frozen 4
              have e5 := hN.cell (i := 5) (v := .int .i64 0) rfl
              have f5 := hN.frozen 5
              have e6 := hN.cell (i := 6) (v := .int .i64 0) rfl
              have f6 := hN.frozen 6
              have e7 := hN.cell (i := 7) (v := .int .i64 0) rfl
              have f7 := hN.frozen 7
              have e8 := hN.cell (i := 8) (v := .int .i64 0) rfl
              have f8 := hN.frozen 8
              have lA := hA.lt
              have lN := hN.lt
              go_simp
              refine hK.out _ _ (by (repeat' (first | (with_reducible exact Below.refl _ _) | (with_reducible refine Below.setCell ?_ (by (first | omega | (simp; done) | (simp; omega))) _) | (with_reducible refine Below.alloc ?_ (by (first | omega | (simp; done) | (simp; omega))) _) | (with_reducible refine Below.drew ?_) | (with_reducible refine below_drewN ?_ _) | (with_reducible refine Below.trans ?_ (Below.mono hHeld (by (first | omega | (simp; done) | (simp; omega)))))))) (fun hHeld => ?_)
              clear hK K
              clear e0 f0 e1 f1 e2 f2 e3 f3 e4 f4 e5 f5 e6 f6 e7 f7 e8 f8
              refine any_named (fun W => Below W0.heap.size W0 W ∧ Blk W v1.heap.size 23 (cellsT p) ∧ Blk W v0.heap.size 43 (crAll d ⟨0, 0, 0⟩)) ⟨hHeld, by (repeat' (first | (with_reducible exact hA) | (with_reducible refine BlkP.Blk.drew ?_) | (with_reducible refine BlkP.Blk.drewN ?_ _) | (with_reducible refine BlkP.Blk.setAt (us := ?_) (by first | omega | (simp; done) | (simp; omega)) rfl ?_ ?_) | (with_reducible refine BlkP.Blk.otherAt ?_ (by first | omega | (simp; done) | (simp; omega))) | (with_reducible refine BlkP.Blk.newA' (by first | omega | (simp; done) | (simp; omega)) rfl) | (with_reducible refine BlkP.Blk.alloc ?_ _) | (exact rfl))), by (repeat' (first | (with_reducible exact hN) | (with_reducible refine BlkP.Blk.drew ?_) | (with_reducible refine BlkP.Blk.drewN ?_ _) | (with_reducible refine BlkP.Blk.setAt (us := ?_) (by first | omega | (simp; done) | (simp; omega)) rfl ?_ ?_) | (with_reducible refine BlkP.Blk.otherAt ?_ (by first | omega | (simp; done) | (simp; omega))) | (with_reducible refine BlkP.Blk.newA' (by first | omega | (simp; done) | (simp; omega)) rfl) | (with_reducible refine BlkP.Blk.alloc ?_ _) | (exact rfl)))⟩ ?_
              clear hHeld hA hN
              rintro v5 ⟨hHeld, hA, hN⟩
              have hSv5 := hHeld.size
              refine wpAnyH_done (by kernel_rfl) ?_ _
              refine NoPanic.normal ?_
              go_wp2_with fail
              go_meet
              case rel =>
                have hbW := HBW.out
                exact ⟨_, _, rfl, rfl, by omega, by omega, by omega, hA, hN, hbW.trans (hHeld.mono hbW.size)⟩
            exact AllReadyH.nil
          exact AllReadyH.nil
        exact AllReadyH.nil
      exact AllReadyH.nil
    exact AllReadyH.nil
  case rest =>
    obtain ⟨bA, bN, rfl, rfl, hne, sA, sN, hA, hN, hbW⟩ := hcut
    have lA := hA.lt
    have lN := hN.lt
    have H3 := Lib.hid (dir_some HD.out)
    have HSZ := Lib.hid (dir_size HD.out)
    have HSTART : Hid (WayR p d n w wc.heap.size bA bN 0 (.slice none 0 0) wc) := Lib.hid ⟨Nat.zero_le _, fun j hj => absurd hj (by omega), OwnL.nil _ _, by
      rw [show mAt d 0 = ⟨0, 0, 0⟩ from rfl, HP0.out]
      exact hA, hN, hbW, Nat.le_refl _⟩
    have hWC : w.heap.size ≤ wc.heap.size := hbW.size
    clear hA hN hbW HF HBW c0 c1 c2 c3 c4 c5 hz0 zz0
    go_wp2_with fail
    go_step3
    go_wp2_with fail
    go_loopg [8] n (fun g v wr => ∃ i : Nat, i + g = n ∧ WayR p d n w wc.heap.size bA bN i v wr)
    case atStart => exact ⟨0, by omega, HSTART.out⟩
    case round =>
      obtain ⟨i, hig, hR⟩ := hrel
      obtain ⟨A, c, rfl, hc⟩ := hR.own.form' (lst_len p d i)
      have HR := Lib.hid hR
      have hi300 : ∀ k, nA (mAt d i) k ≤ 300 := fun k => by
        have := at_le d i k
        omega
      have HI3 := Lib.hid hi300
      clear hi300
      obtain ⟨j, hj⟩ : ∃ j, soonI (szT d) (mAt d i) 3 = j := ⟨_, rfl⟩
      have HJ := Lib.hid hj
      clear hj
      have c0 := hR.next.cell (i := 0) (v := .int .i64 (od (mAt d i) 0)) rfl
      have c1 := hR.next.cell (i := 1) (v := .int .i64 (nA (szT d) 0)) rfl
      have c2 := hR.next.cell (i := 2) (v := .int .i64 (dirA d 0)) rfl
      have c3 := hR.next.cell (i := 3) (v := .int .i64 (od (mAt d i) 1)) rfl
      have c4 := hR.next.cell (i := 4) (v := .int .i64 (nA (szT d) 1)) rfl
      have c5 := hR.next.cell (i := 5) (v := .int .i64 (dirA d 1)) rfl
      have c6 := hR.next.cell (i := 6) (v := .int .i64 (od (mAt d i) 2)) rfl
      have c7 := hR.next.cell (i := 7) (v := .int .i64 (nA (szT d) 2)) rfl
      have c8 := hR.next.cell (i := 8) (v := .int .i64 (dirA d 2)) rfl
      have hsr := hR.next.lt
      clear hR
      go_wp2_with fail
      go_at_call 18
      refine (soon_c (pos_at d i) HI3.out HSZ.out HJ.out _).mono ?_
      rintro e w4 ⟨rfl, hb4⟩
      have hR4 := HR.out.keep hb4
      have HR4 := Lib.hid hR4
      have hs4 := hR4.next.lt
      have hs4A := hR4.at_.lt
      clear c0 c1 c2 c3 c4 c5 c6 c7 c8 hb4 HR
      have c0 := hR4.next.cell (i := 0) (v := .int .i64 (od (mAt d i) 0)) rfl
      have c1 := hR4.next.cell (i := 1) (v := .int .i64 (nA (szT d) 0)) rfl
      have c2 := hR4.next.cell (i := 2) (v := .int .i64 (dirA d 0)) rfl
      have c3 := hR4.next.cell (i := 3) (v := .int .i64 (od (mAt d i) 1)) rfl
      have c4 := hR4.next.cell (i := 4) (v := .int .i64 (nA (szT d) 1)) rfl
      have c5 := hR4.next.cell (i := 5) (v := .int .i64 (dirA d 1)) rfl
      have c6 := hR4.next.cell (i := 6) (v := .int .i64 (od (mAt d i) 2)) rfl
      have c7 := hR4.next.cell (i := 7) (v := .int .i64 (nA (szT d) 2)) rfl
      have c8 := hR4.next.cell (i := 8) (v := .int .i64 (dirA d 2)) rfl
      clear hR4
      go_wp2_with fail
      refine HeldP.wp_named (fun W => WayR p d n w wc.heap.size bA bN i (.slice A i c) W ∧ Blk W w4.heap.size 42 [.int .i64 (od (mAt d i) j), .int .i64 (nA (szT d) j), .int .i64 (dirA d j)] ∧ Below w4.heap.size w4 W) ⟨HR4.out.keep (by (repeat' (first | (with_reducible exact Below.refl _ _) | (with_reducible refine Below.setCell ?_ (by (first | omega | (simp; done) | (simp; omega))) _) | (with_reducible refine Below.alloc ?_ (by (first | omega | (simp; done) | (simp; omega))) _) | (with_reducible refine Below.drew ?_) | (with_reducible refine below_drewN ?_ _)))), by (repeat' (first | (with_reducible refine BlkP.Blk.drew ?_) | (with_reducible refine BlkP.Blk.drewN ?_ _) | (with_reducible refine BlkP.Blk.setAt (us := ?_) (by first | omega | (simp; done) | (simp; omega)) rfl ?_ ?_) | (with_reducible refine BlkP.Blk.otherAt ?_ (by first | omega | (simp; done) | (simp; omega))) | (with_reducible refine BlkP.Blk.newA' (by first | omega | (simp; done) | (simp; omega)) rfl) | (with_reducible refine BlkP.Blk.alloc ?_ _) | (exact rfl))), by (repeat' (first | (with_reducible exact Below.refl _ _) | (with_reducible refine Below.setCell ?_ (by (first | omega | (simp; done) | (simp; omega))) _) | (with_reducible refine Below.alloc ?_ (by (first | omega | (simp; done) | (simp; omega))) _) | (with_reducible refine Below.drew ?_) | (with_reducible refine below_drewN ?_ _)))⟩ ?_
      rintro W5 ⟨hR5, hS5, hb5⟩
      have HOB : Hid ((Value.slice A i c).ownBlock ≠ some w4.heap.size) := Lib.hid HR4.out.own.old
      have HST : Hid (WayR p d n w wc.heap.size bA bN (i + cntK (szT d) (mAt d i) 0) (.slice A i c) W5 ∧ Blk W5 w4.heap.size 42 [.int .i64 (od (mAt d i) j), .int .i64 (nA (szT d) j), .int .i64 (dirA d j)]) := Lib.hid ⟨hR5, hS5⟩
      clear c0 c1 c2 c3 c4 c5 c6 c7 c8 hR5 hS5 hb5 HR4
      go_loopg [8, 36] 3 (fun g2 v x wy => ∃ k : Nat, k + g2 = 3 ∧ x = .int .i64 k ∧ WayR p d n w wc.heap.size bA bN (i + cntK (szT d) (mAt d i) k) v wy ∧ Blk wy w4.heap.size 42 [.int .i64 (od (mAt d i) j), .int .i64 (nA (szT d) j), .int .i64 (dirA d j)] ∧ v.ownBlock ≠ some w4.heap.size)
      case atStart => exact ⟨0, by omega, rfl, HST.out.1, HST.out.2, HOB.out⟩
      case round =>
        obtain ⟨k, hkg, rfl, hR, hS, hob⟩ := hrel
        obtain ⟨ii, hii⟩ : ∃ ii, i + cntK (szT d) (mAt d i) k = ii := ⟨_, rfl⟩
        rw [hii] at hR
        have HII := Lib.hid hii
        clear hii
        obtain ⟨A2, c2, rfl, hc2⟩ := hR.own.form' (lst_len p d ii)
        have HR2 := Lib.hid hR
        have HS2 := Lib.hid hS
        have HO2 := Lib.hid hob
        have hsy := hR.next.lt
        have hsA := hR.at_.lt
        have hsS := hS.lt
        have hiin := hR.le
        have hbig := hR.big
        cases gk with
        | zero =>
          obtain rfl : k = 3 := by omega
          clear hR hS hob
          go_wp2_with fail
          go_roundg (n - ii)
          case measure =>
            have := HII.out
            have := cnt_pos (szT d) (mAt d i)
            omega
          case rel => exact ⟨ii, by omega, HR2.out.keep (by (repeat' (first | (with_reducible exact Below.refl _ _) | (with_reducible refine Below.setCell ?_ (by (first | omega | (simp; done) | (simp; omega))) _) | (with_reducible refine Below.alloc ?_ (by (first | omega | (simp; done) | (simp; omega))) _) | (with_reducible refine Below.drew ?_) | (with_reducible refine below_drewN ?_ _))))⟩
        | succ g2 =>
          have hk : k < 3 := by omega
          have hkI : (k : Int) < 3 := by omega
          have hkt : decide ((k : Int) < 3) = true := decide_eq_true hkI
          have hidx := idx_c d (mAt d i) hk
          have s0 := hS.cell (i := 0) (v := .int .i64 (od (mAt d i) j)) rfl
          have s1 := hS.cell (i := 1) (v := .int .i64 (nA (szT d) j)) rfl
          have s2 := hS.cell (i := 2) (v := .int .i64 (dirA d j)) rfl
          obtain ⟨b1, b2⟩ := prod_c HI3.out HSZ.out k j (pos_at d i)
          obtain ⟨b3, b4⟩ := prod_c HI3.out HSZ.out j k (pos_at d i)
          clear hR hS hob
          cases ht : tog (szT d) (mAt d i) k with
          | false =>
            have HTG : Hid (decide (od (mAt d i) k * nA (szT d) j = od (mAt d i) j * nA (szT d) k) = false) := Lib.hid (by rw [← HJ.out]; exact ht)
            have HCN := Lib.hid (cnt_no ht)
            clear ht
            go_wp2_with fail
            go_at_call 19
            refine (together_c b1 b2 b3 b4 HTG.out _).mono ?_
            rintro e w6 ⟨rfl, hb6⟩
            go_wp2_with fail
            go_roundg g2
            case measure => omega
            case rel => exact ⟨k + 1, by omega, by go_num, by rw [HCN.out, HII.out]; exact HR2.out.keep (by (repeat' (first | (with_reducible exact Below.refl _ _) | (with_reducible refine Below.setCell ?_ (by (first | omega | (simp; done) | (simp; omega))) _) | (with_reducible refine Below.alloc ?_ (by (first | omega | (simp; done) | (simp; omega))) _) | (with_reducible refine Below.drew ?_) | (with_reducible refine below_drewN ?_ _) | (with_reducible refine Below.trans ?_ (Below.mono hb6 (by (first | omega | (simp; done) | (simp; omega)))))))), HS2.out.below (by (repeat' (first | (with_reducible exact Below.refl _ _) | (with_reducible refine Below.setCell ?_ (by (first | omega | (simp; done) | (simp; omega))) _) | (with_reducible refine Below.alloc ?_ (by (first | omega | (simp; done) | (simp; omega))) _) | (with_reducible refine Below.drew ?_) | (with_reducible refine below_drewN ?_ _) | (with_reducible refine Below.trans ?_ (Below.mono hb6 (by (first | omega | (simp; done) | (simp; omega)))))))), HO2.out⟩
          | true =>
            have HTG : Hid (decide (od (mAt d i) k * nA (szT d) j = od (mAt d i) j * nA (szT d) k) = true) := Lib.hid (by rw [← HJ.out]; exact ht)
            have HCY := Lib.hid (cnt_yes ht)
            have HBU := Lib.hid (bump_at H3.out hk ht HII.out)
            have HD0 : Hid (nA d k ≠ 0) := Lib.hid (fun e => by
              have h := tog_pos (szT_nonneg d) (pos_at d i) H3.out ht
              rw [nA_sz, e] at h
              simp [sz] at h)
            have HSTP := Lib.hid (step_is hk HD0.out (may_at HP.out HR2.out.all))
            clear ht
            go_wp2_with fail
            go_at_call 19
            refine (together_c b1 b2 b3 b4 HTG.out _).mono ?_
            rintro e w6 ⟨rfl, hb6⟩
            have hz6 := hb6.size
            simp at hz6
            have hC6 : Blk w6 wr.heap.size 42 [.int .i64 (od (mAt d i) k), .int .i64 (nA (szT d) k), .int .i64 (dirA d k)] := BlkP.Blk.below (by (repeat' (first | (with_reducible refine BlkP.Blk.drew ?_) | (with_reducible refine BlkP.Blk.drewN ?_ _) | (with_reducible refine BlkP.Blk.setAt (us := ?_) (by first | omega | (simp; done) | (simp; omega)) rfl ?_ ?_) | (with_reducible refine BlkP.Blk.otherAt ?_ (by first | omega | (simp; done) | (simp; omega))) | (with_reducible refine BlkP.Blk.newA' (by first | omega | (simp; done) | (simp; omega)) rfl) | (with_reducible refine BlkP.Blk.alloc ?_ _) | (exact rfl)))) hb6
            have d2 := hC6.cell (i := 2) (v := .int .i64 (dirA d k)) rfl
            clear hC6
            have a0 := (HR2.out.at_.below (by (repeat' (first | (with_reducible exact Below.refl _ _) | (with_reducible refine Below.setCell ?_ (by (first | omega | (simp; done) | (simp; omega))) _) | (with_reducible refine Below.alloc ?_ (by (first | omega | (simp; done) | (simp; omega))) _) | (with_reducible refine Below.drew ?_) | (with_reducible refine below_drewN ?_ _) | (with_reducible refine Below.trans ?_ (Below.mono hb6 (by (first | omega | (simp; done) | (simp; omega))))))) : Below wr.heap.size wr w6)).cell (i := 0) (v := .int .i64 ((posA p d (mAt d ii)).x)) rfl
            have a1 := (HR2.out.at_.below (by (repeat' (first | (with_reducible exact Below.refl _ _) | (with_reducible refine Below.setCell ?_ (by (first | omega | (simp; done) | (simp; omega))) _) | (with_reducible refine Below.alloc ?_ (by (first | omega | (simp; done) | (simp; omega))) _) | (with_reducible refine Below.drew ?_) | (with_reducible refine below_drewN ?_ _) | (with_reducible refine Below.trans ?_ (Below.mono hb6 (by (first | omega | (simp; done) | (simp; omega))))))) : Below wr.heap.size wr w6)).cell (i := 1) (v := .int .i64 ((posA p d (mAt d ii)).y)) rfl
            have a2 := (HR2.out.at_.below (by (repeat' (first | (with_reducible exact Below.refl _ _) | (with_reducible refine Below.setCell ?_ (by (first | omega | (simp; done) | (simp; omega))) _) | (with_reducible refine Below.alloc ?_ (by (first | omega | (simp; done) | (simp; omega))) _) | (with_reducible refine Below.drew ?_) | (with_reducible refine below_drewN ?_ _) | (with_reducible refine Below.trans ?_ (Below.mono hb6 (by (first | omega | (simp; done) | (simp; omega))))))) : Below wr.heap.size wr w6)).cell (i := 2) (v := .int .i64 ((posA p d (mAt d ii)).z)) rfl
            clear s0 s1 s2 hidx b1 b2 b3 b4
            cases hmq : mayT (posA p d (mAt d (ii + 1))) with
            | false =>
              have HSQ : Hid (stepOf (posA p d (mAt d ii)).x (posA p d (mAt d ii)).y (posA p d (mAt d ii)).z (dirA d k) = (0, 0, 0, false)) := Lib.hid (by rw [HSTP.out, HBU.out, hmq]; rfl)
              have HE : Hid (ii = n ∨ mayT (posA p d (mAt d (ii + 1))) = false) := Lib.hid (.inr hmq)
              clear hmq
              go_wp2_with fail
              go_at_call 20
              refine (step_c HSQ.out _).mono ?_
              rintro e w7 ⟨rfl, hb7⟩
              have hz7 := hb7.size
              try simp at hz7
              go_wp2_with fail
              try rw [Exit.noGoto_ret]
              go_ret2
              exact HR2.out.done (by (repeat' (first | (with_reducible exact Below.refl _ _) | (with_reducible refine Below.setCell ?_ (by (first | omega | (simp; done) | (simp; omega))) _) | (with_reducible refine Below.alloc ?_ (by (first | omega | (simp; done) | (simp; omega))) _) | (with_reducible refine Below.drew ?_) | (with_reducible refine below_drewN ?_ _) | (with_reducible refine Below.trans ?_ (Below.mono hb7 (by (first | omega | (simp; done) | (simp; omega))))) | (with_reducible refine Below.trans ?_ (Below.mono hb6 (by (first | omega | (simp; done) | (simp; omega)))))))) hWC HE.out
            | true =>
              have HSQ : Hid (stepOf (posA p d (mAt d ii)).x (posA p d (mAt d ii)).y (posA p d (mAt d ii)).z (dirA d k) = ((posA p d (mAt d (ii + 1))).x, (posA p d (mAt d (ii + 1))).y, (posA p d (mAt d (ii + 1))).z, true)) := Lib.hid (by rw [HSTP.out, HBU.out, hmq]; rfl)
              have HMQ := Lib.hid hmq
              clear hmq
              by_cases hin : ii = n
              · have HE : Hid (ii = n ∨ mayT (posA p d (mAt d (ii + 1))) = false) := Lib.hid (.inl hin)
                have e1 : ((ii : Int) == (n : Int)) = true := by simp [hin]
                clear hin
                go_wp2_with fail
                go_at_call 20
                refine (step_c HSQ.out _).mono ?_
                rintro e w7 ⟨rfl, hb7⟩
                have hz7 := hb7.size
                try simp at hz7
                go_wp2_with fail
                try rw [Exit.noGoto_ret]
                go_ret2
                exact HR2.out.done (by (repeat' (first | (with_reducible exact Below.refl _ _) | (with_reducible refine Below.setCell ?_ (by (first | omega | (simp; done) | (simp; omega))) _) | (with_reducible refine Below.alloc ?_ (by (first | omega | (simp; done) | (simp; omega))) _) | (with_reducible refine Below.drew ?_) | (with_reducible refine below_drewN ?_ _) | (with_reducible refine Below.trans ?_ (Below.mono hb7 (by (first | omega | (simp; done) | (simp; omega))))) | (with_reducible refine Below.trans ?_ (Below.mono hb6 (by (first | omega | (simp; done) | (simp; omega)))))))) hWC HE.out
              · have e1 : ((ii : Int) == (n : Int)) = false := beq_eq_false_iff_ne.2 (by omega)
                have hlt : ii < n := by omega
                clear hin
                go_wp2_with fail
                go_at_call 20
                refine (step_c HSQ.out _).mono ?_
                rintro e w7 ⟨rfl, hb7⟩
                have hz7 := hb7.size
                try simp at hz7
                have hbx : Below wr.heap.size wr w7 := by (repeat' (first | (with_reducible exact Below.refl _ _) | (with_reducible refine Below.setCell ?_ (by (first | omega | (simp; done) | (simp; omega))) _) | (with_reducible refine Below.alloc ?_ (by (first | omega | (simp; done) | (simp; omega))) _) | (with_reducible refine Below.drew ?_) | (with_reducible refine below_drewN ?_ _) | (with_reducible refine Below.trans ?_ (Below.mono hb7 (by (first | omega | (simp; done) | (simp; omega))))) | (with_reducible refine Below.trans ?_ (Below.mono hb6 (by (first | omega | (simp; done) | (simp; omega)))))))
                have hzx := hbx.size
                have q7 : bA < w7.heap.size := by omega
                have hA7 := HR2.out.at_.below hbx
                have x0 := hA7.cell (i := 0) (v := .int .i64 ((posA p d (mAt d ii)).x)) rfl
                have x1 := hA7.cell (i := 1) (v := .int .i64 ((posA p d (mAt d ii)).y)) rfl
                have x2 := hA7.cell (i := 2) (v := .int .i64 ((posA p d (mAt d ii)).z)) rfl
                have f0 := hA7.frozen 0
                have f1 := hA7.frozen 1
                have f2 := hA7.frozen 2
                have HA7 := Lib.hid hA7
                have HBX := Lib.hid hbx
                clear hA7 a0 a1 a2 d2 hb6 hb7 hbx
                go_upto_region 15 with (fail)
                refine HeldP.wp_named (fun W => OwnL W wc.heap.size (.slice A2 ii c2) (lst p d ii) ∧ Blk W bA 23 (cellsT (posA p d (mAt d (ii + 1)))) ∧ Blk W bN 43 (crAll d (mAt d ii)) ∧ Blk W w4.heap.size 42 [.int .i64 (od (mAt d i) j), .int .i64 (nA (szT d) j), .int .i64 (dirA d j)] ∧ Below w.heap.size w W ∧ wr.heap.size ≤ W.heap.size) ?named ?_
                case named =>
                  have hO7 := HR2.out.own.below HBX.out
                  have hA7 := HA7.out
                  have hN7 := HR2.out.next.below HBX.out
                  have hS7 := HS2.out.below HBX.out
                  have hb7 := HR2.out.below.trans (HBX.out.mono HR2.out.below.size)
                  refine ⟨?_, by (repeat' (first | (with_reducible exact hA7) | (with_reducible refine BlkP.Blk.drew ?_) | (with_reducible refine BlkP.Blk.drewN ?_ _) | (with_reducible refine BlkP.Blk.setAt (us := ?_) (by first | omega | (simp; done) | (simp; omega)) rfl ?_ ?_) | (with_reducible refine BlkP.Blk.otherAt ?_ (by first | omega | (simp; done) | (simp; omega))) | (with_reducible refine BlkP.Blk.newA' (by first | omega | (simp; done) | (simp; omega)) rfl) | (with_reducible refine BlkP.Blk.alloc ?_ _) | (exact rfl))), by (repeat' (first | (with_reducible exact hN7) | (with_reducible refine BlkP.Blk.drew ?_) | (with_reducible refine BlkP.Blk.drewN ?_ _) | (with_reducible refine BlkP.Blk.setAt (us := ?_) (by first | omega | (simp; done) | (simp; omega)) rfl ?_ ?_) | (with_reducible refine BlkP.Blk.otherAt ?_ (by first | omega | (simp; done) | (simp; omega))) | (with_reducible refine BlkP.Blk.newA' (by first | omega | (simp; done) | (simp; omega)) rfl) | (with_reducible refine BlkP.Blk.alloc ?_ _) | (exact rfl))), by (repeat' (first | (with_reducible exact hS7) | (with_reducible refine BlkP.Blk.drew ?_) | (with_reducible refine BlkP.Blk.drewN ?_ _) | (with_reducible refine BlkP.Blk.setAt (us := ?_) (by first | omega | (simp; done) | (simp; omega)) rfl ?_ ?_) | (with_reducible refine BlkP.Blk.otherAt ?_ (by first | omega | (simp; done) | (simp; omega))) | (with_reducible refine BlkP.Blk.newA' (by first | omega | (simp; done) | (simp; omega)) rfl) | (with_reducible refine BlkP.Blk.alloc ?_ _) | (exact rfl))), by (repeat' (first | (with_reducible exact Below.refl _ _) | (with_reducible refine Below.setCell ?_ (by (first | omega | (simp; done) | (simp; omega))) _) | (with_reducible refine Below.alloc ?_ (by (first | omega | (simp; done) | (simp; omega))) _) | (with_reducible refine Below.drew ?_) | (with_reducible refine below_drewN ?_ _) | (with_reducible refine Below.trans ?_ (Below.mono hb7 (by (first | omega | (simp; done) | (simp; omega))))))), by (simp; omega)⟩
                  repeat' (first | (with_reducible exact hO7) | (with_reducible refine OwnL.set ?_ (by first | omega | (simp; omega))) | (with_reducible refine OwnL.alloc ?_ _))
                rintro W8 ⟨hO8, hA8, hN8, hS8, hb8, hz8⟩
                have y0 := hA8.cell (i := 0) (v := .int .i64 ((posA p d (mAt d (ii + 1))).x)) rfl
                have y1 := hA8.cell (i := 1) (v := .int .i64 ((posA p d (mAt d (ii + 1))).y)) rfl
                have y2 := hA8.cell (i := 2) (v := .int .i64 ((posA p d (mAt d (ii + 1))).z)) rfl
                have HO8 : Hid (W8.ownsRow wc.heap.size 23 3 (.slice A2 ii c2) ii (cellsL (lst p d ii))) := Lib.hid (by
                  have := hO8
                  unfold OwnL at this
                  rwa [lst_len] at this)
                have HA8 := Lib.hid hA8
                have HN8 := Lib.hid hN8
                have HS8 := Lib.hid hS8
                have HB8 := Lib.hid hb8
                clear hO8 hA8 hN8 hS8 hb8 x0 x1 x2 f0 f1 f2
                go_wp2_with (at_builtin; go_loud (refine wpList_append_own_at _ rfl _ _ 25 rfl wc.heap.size 23 i0 (.agg #[.int .i64 0, .int .i64 0, .int .i64 0]) 3 24 Tryd.underlying25 HI0.out HZ0.out HZ1.out HZ2.out rfl (by decide) _ _ _ rfl (HO8.out.alloc _) ⟨W8.heap.size, 0, none⟩ 1 1 (cellsT (posA p d (mAt d (ii + 1)))) rfl rfl ?c1 ?c2 ?c3 ?c4 ?c5 ?_))
                case c1 => exact World.news_of_block (cs := #[.int .i64 ((posA p d (mAt d (ii + 1))).x), .int .i64 ((posA p d (mAt d (ii + 1))).y), .int .i64 ((posA p d (mAt d (ii + 1))).z)]) (t := 23) (fr := (0, 0)) (heap_alloc_new W8 _)
                case c2 => simp [cellsT, Value.oneCell']
                case c3 => (unfold maxLen; omega)
                case c4 => omega
                case c5 => (simp; omega)
                intro v9 w9 hO9 hgrow _ hblk
                have hA9 := (HA8.out.alloc _).grown hgrow (fun e => by
                  have := ownBlock_ge HO8.out bA e.symm
                  omega)
                have hN9 := (HN8.out.alloc _).grown hgrow (fun e => by
                  have := ownBlock_ge HO8.out bN e.symm
                  omega)
                have hS9 := (HS8.out.alloc _).grown hgrow (fun e => HO2.out e.symm)
                have hb9 : Below w.heap.size w w9 := (HB8.out.alloc (by have := HB8.out.size; omega) _).grown hgrow (by (simp; omega)) (fun g hg => by
                  have := ownBlock_ge HO8.out g hg
                  omega)
                have HR9 : Hid (WayR p d n w wc.heap.size bA bN ii v9 w9 → True) := Lib.hid (fun _ => trivial)
                have HO9 : Hid (OwnL w9 wc.heap.size v9 (lst p d (ii + 1))) := Lib.hid (by
                  unfold OwnL
                  rw [lst_succ, cellsL_snoc, List.length_append, lst_len]
                  exact hO9)
                have HOB9 : Hid (v9.ownBlock ≠ some w4.heap.size) := Lib.hid (fun e => by
                  rcases hblk with h | h
                  · exact HO2.out (h ▸ e)
                  · rw [h] at e
                    simp at e
                    omega)
                have z0 := hN9.cell (crAll_get d (mAt d ii) hk)
                have fz := hN9.frozen (k * 3)
                have hs9 := hN9.lt
                have hg9 := hgrow.size
                simp at hg9
                have HA9 := Lib.hid hA9
                have HN9 := Lib.hid hN9
                have HS9 := Lib.hid hS9
                have HB9 := Lib.hid hb9
                have hod := od_pos (pos_at d ii) k
                have hod2 : od (mAt d ii) k ≤ 700 := by
                  have := at_le d ii k
                  unfold od
                  omega
                have HNE : Hid (w4.heap.size ≠ bN ∧ w4.heap.size ≠ bA) := Lib.hid ⟨by omega, by omega⟩
                clear hO9 hgrow hblk hA9 hN9 hS9 hb9 y0 y1 y2
                go_wp2_with fail
                go_roundg g2
                case measure => omega
                case rel =>
                  refine ⟨k + 1, by omega, by go_num, ?_, ?_, HOB9.out⟩
                  · rw [HCY.out, show i + (cntK (szT d) (mAt d i) k + 1) = ii + 1 by have := HII.out; omega]
                    refine ⟨by omega, HR2.out.all.succ HMQ.out, HO9.out.set lN, ?_, ?_, ?_, ?_⟩
                    · exact HA9.out.other hne _
                    · rw [← HBU.out, ← crAll_bump d (mAt d ii) hk]
                      exact HN9.out.set (k * 3) _
                    · exact HB9.out.setCell sN _
                    · (simp; omega)
                  · exact HS9.out.other HNE.out.1 _
end RayP
end Go.Proofs.YtcmndfjoaoinjaaDoor
