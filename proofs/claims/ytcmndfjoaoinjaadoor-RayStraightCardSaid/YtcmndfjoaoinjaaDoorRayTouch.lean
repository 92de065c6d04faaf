/-
  numbers and touches: does a straight way touch a place?
-/
import Derived.Test.YtcmndfjoaoinjaaDoorRayLaw1
import Derived.Deep.Cut
import Derived.Deep.CutRange
import Derived.Deep.LoopGhost
namespace Go.Proofs.YtcmndfjoaoinjaaDoor
open Go.RowKit
set_option linter.unusedVariables false
set_option linter.unusedSimpArgs false
namespace RayP
open PlaceW BlkP
theorem numbers_c {q : T3} (w : World) : Calls Tryd.prog 13 #[.agg #[.int .i64 q.x, .int .i64 q.y, .int .i64 q.z]] w fun e w' => e = .returned (.agg #[.int .i64 q.x, .int .i64 q.y, .int .i64 q.z]) ∧ Below w.heap.size w w' := by
  go_enter Tryd.func13, Tryd.ntmps13
  go_wp2_with fail
  refine bodyPost_ret (v := .agg #[.int .i64 q.x, .int .i64 q.y, .int .i64 q.z]) (by simp [results, Tryd.results13, go_sem]) rfl ?_
  exact ⟨rfl, by (repeat' (first | (with_reducible exact Below.refl _ _) | (with_reducible refine Below.setCell ?_ (by (first | omega | (simp; done) | (simp; omega))) _) | (with_reducible refine Below.alloc ?_ (by (first | omega | (simp; done) | (simp; omega))) _) | (with_reducible refine Below.drew ?_) | (with_reducible refine below_drewN ?_ _)))⟩
/-- Behind two of them: their boxes. -/
def CutN (q1 q2 : T3) (w : World) (v1 v2 : Value) (W : World) : Prop := ∃ bA bB, v1 = .pointer (some ⟨bA, 0, none⟩) ∧ v2 = .pointer (some ⟨bB, 0, none⟩) ∧ bA ≠ bB ∧ w.heap.size ≤ bA ∧ w.heap.size ≤ bB ∧ Blk W bA 24 [.int .i64 q1.x, .int .i64 q1.y, .int .i64 q1.z] ∧ Blk W bB 24 [.int .i64 q2.x, .int .i64 q2.y, .int .i64 q2.z] ∧ Below w.heap.size w W
/-- Of axis k (as it stands in a place): how a place is come to, and the direction's size there. -/
def AxC (p q d : T3) (m s : Nat → Int) (k : Nat) : Prop :=
  (numK d k = -(s k) ∧ 0 < s k ∧ numK q k = numK p k - m k) ∨ (numK d k = s k ∧ 0 < s k ∧ numK q k = numK p k + m k) ∨ (numK d k = 0 ∧ s k = 0 ∧ m k = 0 ∧ numK q k = numK p k)
/-- What touches is asked. -/
structure TouQ (p q d : T3) (m s : Nat → Int) : Prop where
  ax : ∀ k, k < 3 → AxC p q d m s k
  pos : ∀ k, 0 ≤ m k ∧ m k ≤ 256
  size : ∀ k, 0 ≤ s k ∧ s k ≤ 1000
  far : ∀ k, -2000000 ≤ numK p k ∧ numK p k ≤ 2000000
  pair : ∀ i k, (2 * m i - 1) * s k ≤ (2 * m k + 1) * s i
theorem numK_cell {W : World} {b : Nat} {q : T3} (h : Blk W b 24 [.int .i64 q.x, .int .i64 q.y, .int .i64 q.z]) {k : Nat} (hk : k < 3) : W.cell? ⟨b, k, none⟩ = some (.int .i64 (numK q k)) := by
  match k, hk with
  | 0, _ => exact h.cell rfl
  | 1, _ => exact h.cell rfl
  | 2, _ => exact h.cell rfl
theorem prod_b {a b : Int} (ha : -1000 ≤ a) (ha2 : a ≤ 1000) (hb : 0 ≤ b) (hb2 : b ≤ 1000) : -100000000 ≤ a * b ∧ a * b ≤ 100000000 := by
  constructor
  · have h1 : (-1000) * b ≤ a * b := Int.mul_le_mul_of_nonneg_right ha hb
    omega
  · have h1 : a * b ≤ 1000 * b := Int.mul_le_mul_of_nonneg_right ha2 hb
    omega
set_option maxRecDepth 100000 in
set_option maxHeartbeats 16000000 in
theorem touches_yes {p q d : T3} {m s : Nat → Int} (h : TouQ p q d m s) (w : World) : Calls Tryd.prog 14 #[.agg #[.int .i64 p.x, .int .i64 p.y, .int .i64 p.z], .agg #[.int .i64 q.x, .int .i64 q.y, .int .i64 q.z], .agg #[.int .i64 d.x, .int .i64 d.y, .int .i64 d.z]] w fun e w' => e = .returned (.bool true) ∧ Below w.heap.size w w' := by
  have HQ := Lib.hid h
  clear h
  go_enter Tryd.func14, Tryd.ntmps14
  go_wp2_with fail
  refine HeldP.wp_named (fun W => Blk W w.heap.size 23 (cellsT p) ∧ Blk W (w.heap.size + 1) 23 (cellsT q) ∧ Blk W (w.heap.size + 2) 24 [.int .i64 d.x, .int .i64 d.y, .int .i64 d.z] ∧ Below w.heap.size w W) ⟨by (repeat' (first | (with_reducible refine BlkP.Blk.drew ?_) | (with_reducible refine BlkP.Blk.drewN ?_ _) | (with_reducible refine BlkP.Blk.setAt (us := ?_) (by first | omega | (simp; done) | (simp; omega)) rfl ?_ ?_) | (with_reducible refine BlkP.Blk.otherAt ?_ (by first | omega | (simp; done) | (simp; omega))) | (with_reducible refine BlkP.Blk.newA' (by first | omega | (simp; done) | (simp; omega)) rfl) | (with_reducible refine BlkP.Blk.alloc ?_ _) | (exact rfl))), by (repeat' (first | (with_reducible refine BlkP.Blk.drew ?_) | (with_reducible refine BlkP.Blk.drewN ?_ _) | (with_reducible refine BlkP.Blk.setAt (us := ?_) (by first | omega | (simp; done) | (simp; omega)) rfl ?_ ?_) | (with_reducible refine BlkP.Blk.otherAt ?_ (by first | omega | (simp; done) | (simp; omega))) | (with_reducible refine BlkP.Blk.newA' (by first | omega | (simp; done) | (simp; omega)) rfl) | (with_reducible refine BlkP.Blk.alloc ?_ _) | (exact rfl))), by (repeat' (first | (with_reducible refine BlkP.Blk.drew ?_) | (with_reducible refine BlkP.Blk.drewN ?_ _) | (with_reducible refine BlkP.Blk.setAt (us := ?_) (by first | omega | (simp; done) | (simp; omega)) rfl ?_ ?_) | (with_reducible refine BlkP.Blk.otherAt ?_ (by first | omega | (simp; done) | (simp; omega))) | (with_reducible refine BlkP.Blk.newA' (by first | omega | (simp; done) | (simp; omega)) rfl) | (with_reducible refine BlkP.Blk.alloc ?_ _) | (exact rfl))), by (repeat' (first | (with_reducible exact Below.refl _ _) | (with_reducible refine Below.setCell ?_ (by (first | omega | (simp; done) | (simp; omega))) _) | (with_reducible refine Below.alloc ?_ (by (first | omega | (simp; done) | (simp; omega))) _) | (with_reducible refine Below.drew ?_) | (with_reducible refine below_drewN ?_ _)))⟩ ?_
  rintro W0 ⟨h0, h1, h2, hbW⟩
  have c0 := h0.cell (i := 0) (v := .int .i64 p.x) rfl
  have c1 := h0.cell (i := 1) (v := .int .i64 p.y) rfl
  have c2 := h0.cell (i := 2) (v := .int .i64 p.z) rfl
  have c3 := h1.cell (i := 0) (v := .int .i64 q.x) rfl
  have c4 := h1.cell (i := 1) (v := .int .i64 q.y) rfl
  have c5 := h1.cell (i := 2) (v := .int .i64 q.z) rfl
  have zz0 := h0.lt
  have zz1 := h1.lt
  have HD := Lib.hid h2
  have HBW := Lib.hid hbW
  clear h0 h1 h2 hbW
  go_cut [7, 8] from 15 to 18 (fun s7 s8 W => CutN p q W0 s7 s8 W)
  case first =>
    refine wp_region_noPanic ?_
    refine wp_region_held_drew (S := fun W => Below W0.heap.size W0 W) (by kernel_rfl) ((Below.refl _ W0).drew) (fun hHeld => ?_)
    refine wpAnyH_take (i := 0) (oi := ⟨some 15, _, _, _, _, _⟩) (v := .agg #[.int .i64 p.x, .int .i64 p.y, .int .i64 p.z]) rfl (by kernel_rfl) (by kernel_rfl) (by kernel_rfl) (fun _ _ _ h => h) (Or.inl ⟨by rfl, fun W hSW => by have a0 := (hSW.cell (p := ⟨w.heap.size, 0, none⟩) zz0).trans c0; have a1 := (hSW.cell (p := ⟨w.heap.size, 1, none⟩) zz0).trans c1; have a2 := (hSW.cell (p := ⟨w.heap.size, 2, none⟩) zz0).trans c2; go_simp⟩) hHeld ?_
    simp only [Act.put, List.setIfInBounds_toArray, List.set_cons_zero, List.set_cons_succ]
    refine wpAnyH_take (i := 2) (oi := ⟨some 17, _, _, _, _, _⟩) (v := .agg #[.int .i64 q.x, .int .i64 q.y, .int .i64 q.z]) rfl (by kernel_rfl) (by kernel_rfl) (by kernel_rfl) (fun _ _ _ h => h) (Or.inl ⟨by rfl, fun W hSW => by have a0 := (hSW.cell (p := ⟨w.heap.size + 1, 0, none⟩) zz1).trans c3; have a1 := (hSW.cell (p := ⟨w.heap.size + 1, 1, none⟩) zz1).trans c4; have a2 := (hSW.cell (p := ⟨w.heap.size + 1, 2, none⟩) zz1).trans c5; go_simp⟩) hHeld ?_
    simp only [Act.put, List.setIfInBounds_toArray, List.set_cons_zero, List.set_cons_succ]
    refine any_named (fun W => Below W0.heap.size W0 W) hHeld ?_
    clear hHeld
    rintro v0 hHeld
    have hSv0 := hHeld.size
    refine wpAnyH_ready (rs := [1, 4, 5]) (by kernel_rfl) (by simp) ?_
    refine AllReadyH.cons (o := ⟨some 16, _, _, _, _, _⟩) rfl (fun K hK => ?_) ?_
    · go_simp
      refine (numbers_c (q := p) _).mono ?_
      rintro e wf ⟨rfl, hbf⟩
      go_wp2_with fail
      refine hK.out _ _ (below_t hHeld hbf) (fun hHeld => ?_)
      clear hK K
      refine any_named (fun W => Below W0.heap.size W0 W) hHeld ?_
      clear hHeld
      rintro v1 hHeld
      have hSv1 := hHeld.size
      refine wpAnyH_ready (rs := [3, 4, 5]) (by kernel_rfl) (by simp) ?_
      refine AllReadyH.cons (o := ⟨some 18, _, _, _, _, _⟩) rfl (fun K hK => ?_) ?_
      · go_simp
        refine (numbers_c (q := q) _).mono ?_
        rintro e wf ⟨rfl, hbf⟩
        go_wp2_with fail
        refine hK.out _ _ (below_t hHeld hbf) (fun hHeld => ?_)
        clear hK K
        refine any_named (fun W => Below W0.heap.size W0 W) hHeld ?_
        clear hHeld
        rintro v2 hHeld
        have hSv2 := hHeld.size
        refine wpAnyH_ready (rs := [4, 5]) (by kernel_rfl) (by simp) ?_
        refine AllReadyH.cons (o := ⟨some 7, _, _, _, _, _⟩) rfl (fun K hK => ?_) ?_
        · go_simp
          refine hK.out _ _ (hHeld.alloc hHeld.size _) (fun hHeld => ?_)
          clear hK K
          refine any_named (fun W => Below W0.heap.size W0 W ∧ Blk W v2.heap.size 24 [.int .i64 0, .int .i64 0, .int .i64 0]) ⟨hHeld, by (repeat' (first | (with_reducible refine BlkP.Blk.drew ?_) | (with_reducible refine BlkP.Blk.drewN ?_ _) | (with_reducible refine BlkP.Blk.setAt (us := ?_) (by first | omega | (simp; done) | (simp; omega)) rfl ?_ ?_) | (with_reducible refine BlkP.Blk.otherAt ?_ (by first | omega | (simp; done) | (simp; omega))) | (with_reducible refine BlkP.Blk.newA' (by first | omega | (simp; done) | (simp; omega)) rfl) | (with_reducible refine BlkP.Blk.alloc ?_ _) | (exact rfl)))⟩ ?_
          clear hHeld
          rintro v3 ⟨hHeld, hA⟩
          have hSv3 := hHeld.size
          refine wpAnyH_ready (rs := [5]) (by kernel_rfl) (by simp) ?_
          refine AllReadyH.cons (o := ⟨some 8, _, _, _, _, _⟩) rfl (fun K hK => ?_) ?_
          · go_simp
            refine hK.out _ _ (hHeld.alloc hHeld.size _) (fun hHeld => ?_)
            clear hK K
            have lA := hA.lt
            refine any_named (fun W => Below W0.heap.size W0 W ∧ Blk W v2.heap.size 24 [.int .i64 0, .int .i64 0, .int .i64 0] ∧ Blk W v3.heap.size 24 [.int .i64 0, .int .i64 0, .int .i64 0]) ⟨hHeld, by (repeat' (first | (with_reducible exact hA) | (with_reducible refine BlkP.Blk.drew ?_) | (with_reducible refine BlkP.Blk.drewN ?_ _) | (with_reducible refine BlkP.Blk.setAt (us := ?_) (by first | omega | (simp; done) | (simp; omega)) rfl ?_ ?_) | (with_reducible refine BlkP.Blk.otherAt ?_ (by first | omega | (simp; done) | (simp; omega))) | (with_reducible refine BlkP.Blk.newA' (by first | omega | (simp; done) | (simp; omega)) rfl) | (with_reducible refine BlkP.Blk.alloc ?_ _) | (exact rfl))), by (repeat' (first | (with_reducible refine BlkP.Blk.drew ?_) | (with_reducible refine BlkP.Blk.drewN ?_ _) | (with_reducible refine BlkP.Blk.setAt (us := ?_) (by first | omega | (simp; done) | (simp; omega)) rfl ?_ ?_) | (with_reducible refine BlkP.Blk.otherAt ?_ (by first | omega | (simp; done) | (simp; omega))) | (with_reducible refine BlkP.Blk.newA' (by first | omega | (simp; done) | (simp; omega)) rfl) | (with_reducible refine BlkP.Blk.alloc ?_ _) | (exact rfl)))⟩ ?_
            clear hHeld hA
            rintro v4 ⟨hHeld, hA, hN⟩
            have hSv4 := hHeld.size
            refine wpAnyH_ready (rs := [6]) (by kernel_rfl) (by simp) ?_
            refine AllReadyH.cons (o := ⟨none, _, _, _, _, _⟩) rfl (fun K hK => ?_) ?_
            · have e0 := hA.cell (i := 0) (v := .int .i64 0) rfl
              have f0 := hA.frozen 0
              have e1 := hA.cell (i := 1) (v := .int .i64 0) rfl
              have f1 := hA.frozen 1
              have e2 := hA.cell (i := 2) (v := .int .i64 0) rfl
              have f2 := hA.frozen 2
              have lA := hA.lt
              have lN := hN.lt
              go_simp
              refine hK.out _ _ (by (repeat' (first | (with_reducible exact Below.refl _ _) | (with_reducible refine Below.setCell ?_ (by (first | omega | (simp; done) | (simp; omega))) _) | (with_reducible refine Below.alloc ?_ (by (first | omega | (simp; done) | (simp; omega))) _) | (with_reducible refine Below.drew ?_) | (with_reducible refine below_drewN ?_ _) | (with_reducible refine Below.trans ?_ (Below.mono hHeld (by (first | omega | (simp; done) | (simp; omega)))))))) (fun hHeld => ?_)
              clear hK K
              clear e0 e1 e2 f0 f1 f2
              refine any_named (fun W => Below W0.heap.size W0 W ∧ Blk W v2.heap.size 24 [.int .i64 p.x, .int .i64 p.y, .int .i64 p.z] ∧ Blk W v3.heap.size 24 [.int .i64 0, .int .i64 0, .int .i64 0]) ⟨hHeld, by (repeat' (first | (with_reducible exact hA) | (with_reducible refine BlkP.Blk.drew ?_) | (with_reducible refine BlkP.Blk.drewN ?_ _) | (with_reducible refine BlkP.Blk.setAt (us := ?_) (by first | omega | (simp; done) | (simp; omega)) rfl ?_ ?_) | (with_reducible refine BlkP.Blk.otherAt ?_ (by first | omega | (simp; done) | (simp; omega))) | (with_reducible refine BlkP.Blk.newA' (by first | omega | (simp; done) | (simp; omega)) rfl) | (with_reducible refine BlkP.Blk.alloc ?_ _) | (exact rfl))), by (repeat' (first | (with_reducible exact hN) | (with_reducible refine BlkP.Blk.drew ?_) | (with_reducible refine BlkP.Blk.drewN ?_ _) | (with_reducible refine BlkP.Blk.setAt (us := ?_) (by first | omega | (simp; done) | (simp; omega)) rfl ?_ ?_) | (with_reducible refine BlkP.Blk.otherAt ?_ (by first | omega | (simp; done) | (simp; omega))) | (with_reducible refine BlkP.Blk.newA' (by first | omega | (simp; done) | (simp; omega)) rfl) | (with_reducible refine BlkP.Blk.alloc ?_ _) | (exact rfl)))⟩ ?_
              clear hHeld hA hN
              rintro v5 ⟨hHeld, hA, hN⟩
              have hSv5 := hHeld.size
              refine wpAnyH_ready (rs := [7]) (by kernel_rfl) (by simp) ?_
              refine AllReadyH.cons (o := ⟨none, _, _, _, _, _⟩) rfl (fun K hK => ?_) ?_
              · have e0 := hN.cell (i := 0) (v := .int .i64 0) rfl
                have f0 := hN.frozen 0
                have e1 := hN.cell (i := 1) (v := .int .i64 0) rfl
                have f1 := hN.frozen 1
                have e2 := hN.cell (i := 2) (v := .int .i64 0) rfl
                have f2 := hN.frozen 2
                have lA := hA.lt
                have lN := hN.lt
                go_simp
                refine hK.out _ _ (by (repeat' (first | (with_reducible exact Below.refl _ _) | (with_reducible refine Below.setCell ?_ (by (first | omega | (simp; done) | (simp; omega))) _) | (with_reducible refine Below.alloc ?_ (by (first | omega | (simp; done) | (simp; omega))) _) | (with_reducible refine Below.drew ?_) | (with_reducible refine below_drewN ?_ _) | (with_reducible refine Below.trans ?_ (Below.mono hHeld (by (first | omega | (simp; done) | (simp; omega)))))))) (fun hHeld => ?_)
                clear hK K
                clear e0 e1 e2 f0 f1 f2
                refine any_named (fun W => Below W0.heap.size W0 W ∧ Blk W v2.heap.size 24 [.int .i64 p.x, .int .i64 p.y, .int .i64 p.z] ∧ Blk W v3.heap.size 24 [.int .i64 q.x, .int .i64 q.y, .int .i64 q.z]) ⟨hHeld, by (repeat' (first | (with_reducible exact hA) | (with_reducible refine BlkP.Blk.drew ?_) | (with_reducible refine BlkP.Blk.drewN ?_ _) | (with_reducible refine BlkP.Blk.setAt (us := ?_) (by first | omega | (simp; done) | (simp; omega)) rfl ?_ ?_) | (with_reducible refine BlkP.Blk.otherAt ?_ (by first | omega | (simp; done) | (simp; omega))) | (with_reducible refine BlkP.Blk.newA' (by first | omega | (simp; done) | (simp; omega)) rfl) | (with_reducible refine BlkP.Blk.alloc ?_ _) | (exact rfl))), by (repeat' (first | (with_reducible exact hN) | (with_reducible refine BlkP.Blk.drew ?_) | (with_reducible refine BlkP.Blk.drewN ?_ _) | (with_reducible refine BlkP.Blk.setAt (us := ?_) (by first | omega | (simp; done) | (simp; omega)) rfl ?_ ?_) | (with_reducible refine BlkP.Blk.otherAt ?_ (by first | omega | (simp; done) | (simp; omega))) | (with_reducible refine BlkP.Blk.newA' (by first | omega | (simp; done) | (simp; omega)) rfl) | (with_reducible refine BlkP.Blk.alloc ?_ _) | (exact rfl)))⟩ ?_
                clear hHeld hA hN
                rintro v6 ⟨hHeld, hA, hN⟩
                have hSv6 := hHeld.size
                refine wpAnyH_done (by kernel_rfl) ?_ _
                refine NoPanic.normal ?_
                go_wp2_with fail
                go_meet
                case rel =>
                  exact ⟨_, _, rfl, rfl, by omega, by omega, by omega, hA, hN, hHeld⟩
              exact AllReadyH.nil
            exact AllReadyH.nil
          exact AllReadyH.nil
        refine AllReadyH.cons (o := ⟨some 8, _, _, _, _, _⟩) rfl (fun K hK => ?_) ?_
        · go_simp
          refine hK.out _ _ (hHeld.alloc hHeld.size _) (fun hHeld => ?_)
          clear hK K
          refine any_named (fun W => Below W0.heap.size W0 W ∧ Blk W v2.heap.size 24 [.int .i64 0, .int .i64 0, .int .i64 0]) ⟨hHeld, by (repeat' (first | (with_reducible refine BlkP.Blk.drew ?_) | (with_reducible refine BlkP.Blk.drewN ?_ _) | (with_reducible refine BlkP.Blk.setAt (us := ?_) (by first | omega | (simp; done) | (simp; omega)) rfl ?_ ?_) | (with_reducible refine BlkP.Blk.otherAt ?_ (by first | omega | (simp; done) | (simp; omega))) | (with_reducible refine BlkP.Blk.newA' (by first | omega | (simp; done) | (simp; omega)) rfl) | (with_reducible refine BlkP.Blk.alloc ?_ _) | (exact rfl)))⟩ ?_
          clear hHeld
          rintro v3 ⟨hHeld, hN⟩
          have hSv3 := hHeld.size
          refine wpAnyH_ready (rs := [4]) (by kernel_rfl) (by simp) ?_
          refine AllReadyH.cons (o := ⟨some 7, _, _, _, _, _⟩) rfl (fun K hK => ?_) ?_
          · go_simp
            refine hK.out _ _ (hHeld.alloc hHeld.size _) (fun hHeld => ?_)
            clear hK K
            have lN := hN.lt
            refine any_named (fun W => Below W0.heap.size W0 W ∧ Blk W v3.heap.size 24 [.int .i64 0, .int .i64 0, .int .i64 0] ∧ Blk W v2.heap.size 24 [.int .i64 0, .int .i64 0, .int .i64 0]) ⟨hHeld, by (repeat' (first | (with_reducible refine BlkP.Blk.drew ?_) | (with_reducible refine BlkP.Blk.drewN ?_ _) | (with_reducible refine BlkP.Blk.setAt (us := ?_) (by first | omega | (simp; done) | (simp; omega)) rfl ?_ ?_) | (with_reducible refine BlkP.Blk.otherAt ?_ (by first | omega | (simp; done) | (simp; omega))) | (with_reducible refine BlkP.Blk.newA' (by first | omega | (simp; done) | (simp; omega)) rfl) | (with_reducible refine BlkP.Blk.alloc ?_ _) | (exact rfl))), by (repeat' (first | (with_reducible exact hN) | (with_reducible refine BlkP.Blk.drew ?_) | (with_reducible refine BlkP.Blk.drewN ?_ _) | (with_reducible refine BlkP.Blk.setAt (us := ?_) (by first | omega | (simp; done) | (simp; omega)) rfl ?_ ?_) | (with_reducible refine BlkP.Blk.otherAt ?_ (by first | omega | (simp; done) | (simp; omega))) | (with_reducible refine BlkP.Blk.newA' (by first | omega | (simp; done) | (simp; omega)) rfl) | (with_reducible refine BlkP.Blk.alloc ?_ _) | (exact rfl)))⟩ ?_
            clear hHeld hN
            rintro v4 ⟨hHeld, hA, hN⟩
            have hSv4 := hHeld.size
            refine wpAnyH_ready (rs := [6]) (by kernel_rfl) (by simp) ?_
            refine AllReadyH.cons (o := ⟨none, _, _, _, _, _⟩) rfl (fun K hK => ?_) ?_
            · have e0 := hA.cell (i := 0) (v := .int .i64 0) rfl
              have f0 := hA.frozen 0
              have e1 := hA.cell (i := 1) (v := .int .i64 0) rfl
              have f1 := hA.frozen 1
              have e2 := hA.cell (i := 2) (v := .int .i64 0) rfl
              have f2 := hA.frozen 2
              have lA := hA.lt
              have lN := hN.lt
              go_simp
              refine hK.out _ _ (by (repeat' (first | (with_reducible exact Below.refl _ _) | (with_reducible refine Below.setCell ?_ (by (first | omega | (simp; done) | (simp; omega))) _) | (with_reducible refine Below.alloc ?_ (by (first | omega | (simp; done) | (simp; omega))) _) | (with_reducible refine Below.drew ?_) | (with_reducible refine below_drewN ?_ _) | (with_reducible refine Below.trans ?_ (Below.mono hHeld (by (first | omega | (simp; done) | (simp; omega)))))))) (fun hHeld => ?_)
              clear hK K
              clear e0 e1 e2 f0 f1 f2
              refine any_named (fun W => Below W0.heap.size W0 W ∧ Blk W v3.heap.size 24 [.int .i64 p.x, .int .i64 p.y, .int .i64 p.z] ∧ Blk W v2.heap.size 24 [.int .i64 0, .int .i64 0, .int .i64 0]) ⟨hHeld, by (repeat' (first | (with_reducible exact hA) | (with_reducible refine BlkP.Blk.drew ?_) | (with_reducible refine BlkP.Blk.drewN ?_ _) | (with_reducible refine BlkP.Blk.setAt (us := ?_) (by first | omega | (simp; done) | (simp; omega)) rfl ?_ ?_) | (with_reducible refine BlkP.Blk.otherAt ?_ (by first | omega | (simp; done) | (simp; omega))) | (with_reducible refine BlkP.Blk.newA' (by first | omega | (simp; done) | (simp; omega)) rfl) | (with_reducible refine BlkP.Blk.alloc ?_ _) | (exact rfl))), by (repeat' (first | (with_reducible exact hN) | (with_reducible refine BlkP.Blk.drew ?_) | (with_reducible refine BlkP.Blk.drewN ?_ _) | (with_reducible refine BlkP.Blk.setAt (us := ?_) (by first | omega | (simp; done) | (simp; omega)) rfl ?_ ?_) | (with_reducible refine BlkP.Blk.otherAt ?_ (by first | omega | (simp; done) | (simp; omega))) | (with_reducible refine BlkP.Blk.newA' (by first | omega | (simp; done) | (simp; omega)) rfl) | (with_reducible refine BlkP.Blk.alloc ?_ _) | (exact rfl)))⟩ ?_
              clear hHeld hA hN
              rintro v5 ⟨hHeld, hA, hN⟩
              have hSv5 := hHeld.size
              refine wpAnyH_ready (rs := [7]) (by kernel_rfl) (by simp) ?_
              refine AllReadyH.cons (o := ⟨none, _, _, _, _, _⟩) rfl (fun K hK => ?_) ?_
              · have e0 := hN.cell (i := 0) (v := .int .i64 0) rfl
                have f0 := hN.frozen 0
                have e1 := hN.cell (i := 1) (v := .int .i64 0) rfl
                have f1 := hN.frozen 1
                have e2 := hN.cell (i := 2) (v := .int .i64 0) rfl
                have f2 := hN.frozen 2
                have lA := hA.lt
                have lN := hN.lt
                go_simp
                refine hK.out _ _ (by (repeat' (first | (with_reducible exact Below.refl _ _) | (with_reducible refine Below.setCell ?_ (by (first | omega | (simp; done) | (simp; omega))) _) | (with_reducible refine Below.alloc ?_ (by (first | omega | (simp; done) | (simp; omega))) _) | (with_reducible refine Below.drew ?_) | (with_reducible refine below_drewN ?_ _) | (with_reducible refine Below.trans ?_ (Below.mono hHeld (by (first | omega | (simp; done) | (simp; omega)))))))) (fun hHeld => ?_)
                clear hK K
                clear e0 e1 e2 f0 f1 f2
                refine any_named (fun W => Below W0.heap.size W0 W ∧ Blk W v3.heap.size 24 [.int .i64 p.x, .int .i64 p.y, .int .i64 p.z] ∧ Blk W v2.heap.size 24 [.int .i64 q.x, .int .i64 q.y, .int .i64 q.z]) ⟨hHeld, by (repeat' (first | (with_reducible exact hA) | (with_reducible refine BlkP.Blk.drew ?_) | (with_reducible refine BlkP.Blk.drewN ?_ _) | (with_reducible refine BlkP.Blk.setAt (us := ?_) (by first | omega | (simp; done) | (simp; omega)) rfl ?_ ?_) | (with_reducible refine BlkP.Blk.otherAt ?_ (by first | omega | (simp; done) | (simp; omega))) | (with_reducible refine BlkP.Blk.newA' (by first | omega | (simp; done) | (simp; omega)) rfl) | (with_reducible refine BlkP.Blk.alloc ?_ _) | (exact rfl))), by (repeat' (first | (with_reducible exact hN) | (with_reducible refine BlkP.Blk.drew ?_) | (with_reducible refine BlkP.Blk.drewN ?_ _) | (with_reducible refine BlkP.Blk.setAt (us := ?_) (by first | omega | (simp; done) | (simp; omega)) rfl ?_ ?_) | (with_reducible refine BlkP.Blk.otherAt ?_ (by first | omega | (simp; done) | (simp; omega))) | (with_reducible refine BlkP.Blk.newA' (by first | omega | (simp; done) | (simp; omega)) rfl) | (with_reducible refine BlkP.Blk.alloc ?_ _) | (exact rfl)))⟩ ?_
                clear hHeld hA hN
                rintro v6 ⟨hHeld, hA, hN⟩
                have hSv6 := hHeld.size
                refine wpAnyH_done (by kernel_rfl) ?_ _
                refine NoPanic.normal ?_
                go_wp2_with fail
                go_meet
                case rel =>
                  exact ⟨_, _, rfl, rfl, by omega, by omega, by omega, hA, hN, hHeld⟩
              exact AllReadyH.nil
            exact AllReadyH.nil
          exact AllReadyH.nil
        exact AllReadyH.nil
      refine AllReadyH.cons (o := ⟨some 7, _, _, _, _, _⟩) rfl (fun K hK => ?_) ?_
      · go_simp
        refine hK.out _ _ (hHeld.alloc hHeld.size _) (fun hHeld => ?_)
        clear hK K
        refine any_named (fun W => Below W0.heap.size W0 W ∧ Blk W v1.heap.size 24 [.int .i64 0, .int .i64 0, .int .i64 0]) ⟨hHeld, by (repeat' (first | (with_reducible refine BlkP.Blk.drew ?_) | (with_reducible refine BlkP.Blk.drewN ?_ _) | (with_reducible refine BlkP.Blk.setAt (us := ?_) (by first | omega | (simp; done) | (simp; omega)) rfl ?_ ?_) | (with_reducible refine BlkP.Blk.otherAt ?_ (by first | omega | (simp; done) | (simp; omega))) | (with_reducible refine BlkP.Blk.newA' (by first | omega | (simp; done) | (simp; omega)) rfl) | (with_reducible refine BlkP.Blk.alloc ?_ _) | (exact rfl)))⟩ ?_
        clear hHeld
        rintro v2 ⟨hHeld, hA⟩
        have hSv2 := hHeld.size
        refine wpAnyH_ready (rs := [3, 5]) (by kernel_rfl) (by simp) ?_
        refine AllReadyH.cons (o := ⟨some 18, _, _, _, _, _⟩) rfl (fun K hK => ?_) ?_
        · go_simp
          refine (numbers_c (q := q) _).mono ?_
          rintro e wf ⟨rfl, hbf⟩
          go_wp2_with fail
          refine hK.out _ _ (below_t hHeld hbf) (fun hHeld => ?_)
          clear hK K
          refine any_named (fun W => Below W0.heap.size W0 W ∧ Blk W v1.heap.size 24 [.int .i64 0, .int .i64 0, .int .i64 0]) ⟨hHeld, hA.below hbf⟩ ?_
          clear hHeld hA
          rintro v3 ⟨hHeld, hA⟩
          have hSv3 := hHeld.size
          refine wpAnyH_ready (rs := [5]) (by kernel_rfl) (by simp) ?_
          refine AllReadyH.cons (o := ⟨some 8, _, _, _, _, _⟩) rfl (fun K hK => ?_) ?_
          · go_simp
            refine hK.out _ _ (hHeld.alloc hHeld.size _) (fun hHeld => ?_)
            clear hK K
            have lA := hA.lt
            refine any_named (fun W => Below W0.heap.size W0 W ∧ Blk W v1.heap.size 24 [.int .i64 0, .int .i64 0, .int .i64 0] ∧ Blk W v3.heap.size 24 [.int .i64 0, .int .i64 0, .int .i64 0]) ⟨hHeld, by (repeat' (first | (with_reducible exact hA) | (with_reducible refine BlkP.Blk.drew ?_) | (with_reducible refine BlkP.Blk.drewN ?_ _) | (with_reducible refine BlkP.Blk.setAt (us := ?_) (by first | omega | (simp; done) | (simp; omega)) rfl ?_ ?_) | (with_reducible refine BlkP.Blk.otherAt ?_ (by first | omega | (simp; done) | (simp; omega))) | (with_reducible refine BlkP.Blk.newA' (by first | omega | (simp; done) | (simp; omega)) rfl) | (with_reducible refine BlkP.Blk.alloc ?_ _) | (exact rfl))), by (repeat' (first | (with_reducible refine BlkP.Blk.drew ?_) | (with_reducible refine BlkP.Blk.drewN ?_ _) | (with_reducible refine BlkP.Blk.setAt (us := ?_) (by first | omega | (simp; done) | (simp; omega)) rfl ?_ ?_) | (with_reducible refine BlkP.Blk.otherAt ?_ (by first | omega | (simp; done) | (simp; omega))) | (with_reducible refine BlkP.Blk.newA' (by first | omega | (simp; done) | (simp; omega)) rfl) | (with_reducible refine BlkP.Blk.alloc ?_ _) | (exact rfl)))⟩ ?_
            clear hHeld hA
            rintro v4 ⟨hHeld, hA, hN⟩
            have hSv4 := hHeld.size
            refine wpAnyH_ready (rs := [6]) (by kernel_rfl) (by simp) ?_
            refine AllReadyH.cons (o := ⟨none, _, _, _, _, _⟩) rfl (fun K hK => ?_) ?_
            · have e0 := hA.cell (i := 0) (v := .int .i64 0) rfl
              have f0 := hA.frozen 0
              have e1 := hA.cell (i := 1) (v := .int .i64 0) rfl
              have f1 := hA.frozen 1
              have e2 := hA.cell (i := 2) (v := .int .i64 0) rfl
              have f2 := hA.frozen 2
              have lA := hA.lt
              have lN := hN.lt
              go_simp
              refine hK.out _ _ (by (repeat' (first | (with_reducible exact Below.refl _ _) | (with_reducible refine Below.setCell ?_ (by (first | omega | (simp; done) | (simp; omega))) _) | (with_reducible refine Below.alloc ?_ (by (first | omega | (simp; done) | (simp; omega))) _) | (with_reducible refine Below.drew ?_) | (with_reducible refine below_drewN ?_ _) | (with_reducible refine Below.trans ?_ (Below.mono hHeld (by (first | omega | (simp; done) | (simp; omega)))))))) (fun hHeld => ?_)
              clear hK K
              clear e0 e1 e2 f0 f1 f2
              refine any_named (fun W => Below W0.heap.size W0 W ∧ Blk W v1.heap.size 24 [.int .i64 p.x, .int .i64 p.y, .int .i64 p.z] ∧ Blk W v3.heap.size 24 [.int .i64 0, .int .i64 0, .int .i64 0]) ⟨hHeld, by (repeat' (first | (with_reducible exact hA) | (with_reducible refine BlkP.Blk.drew ?_) | (with_reducible refine BlkP.Blk.drewN ?_ _) | (with_reducible refine BlkP.Blk.setAt (us := ?_) (by first | omega | (simp; done) | (simp; omega)) rfl ?_ ?_) | (with_reducible refine BlkP.Blk.otherAt ?_ (by first | omega | (simp; done) | (simp; omega))) | (with_reducible refine BlkP.Blk.newA' (by first | omega | (simp; done) | (simp; omega)) rfl) | (with_reducible refine BlkP.Blk.alloc ?_ _) | (exact rfl))), by (repeat' (first | (with_reducible exact hN) | (with_reducible refine BlkP.Blk.drew ?_) | (with_reducible refine BlkP.Blk.drewN ?_ _) | (with_reducible refine BlkP.Blk.setAt (us := ?_) (by first | omega | (simp; done) | (simp; omega)) rfl ?_ ?_) | (with_reducible refine BlkP.Blk.otherAt ?_ (by first | omega | (simp; done) | (simp; omega))) | (with_reducible refine BlkP.Blk.newA' (by first | omega | (simp; done) | (simp; omega)) rfl) | (with_reducible refine BlkP.Blk.alloc ?_ _) | (exact rfl)))⟩ ?_
              clear hHeld hA hN
              rintro v5 ⟨hHeld, hA, hN⟩
              have hSv5 := hHeld.size
              refine wpAnyH_ready (rs := [7]) (by kernel_rfl) (by simp) ?_
              refine AllReadyH.cons (o := ⟨none, _, _, _, _, _⟩) rfl (fun K hK => ?_) ?_
              · have e0 := hN.cell (i := 0) (v := .int .i64 0) rfl
                have f0 := hN.frozen 0
                have e1 := hN.cell (i := 1) (v := .int .i64 0) rfl
                have f1 := hN.frozen 1
                have e2 := hN.cell (i := 2) (v := .int .i64 0) rfl
                have f2 := hN.frozen 2
                have lA := hA.lt
                have lN := hN.lt
                go_simp
                refine hK.out _ _ (by (repeat' (first | (with_reducible exact Below.refl _ _) | (with_reducible refine Below.setCell ?_ (by (first | omega | (simp; done) | (simp; omega))) _) | (with_reducible refine Below.alloc ?_ (by (first | omega | (simp; done) | (simp; omega))) _) | (with_reducible refine Below.drew ?_) | (with_reducible refine below_drewN ?_ _) | (with_reducible refine Below.trans ?_ (Below.mono hHeld (by (first | omega | (simp; done) | (simp; omega)))))))) (fun hHeld => ?_)
                clear hK K
                clear e0 e1 e2 f0 f1 f2
                refine any_named (fun W => Below W0.heap.size W0 W ∧ Blk W v1.heap.size 24 [.int .i64 p.x, .int .i64 p.y, .int .i64 p.z] ∧ Blk W v3.heap.size 24 [.int .i64 q.x, .int .i64 q.y, .int .i64 q.z]) ⟨hHeld, by (repeat' (first | (with_reducible exact hA) | (with_reducible refine BlkP.Blk.drew ?_) | (with_reducible refine BlkP.Blk.drewN ?_ _) | (with_reducible refine BlkP.Blk.setAt (us := ?_) (by first | omega | (simp; done) | (simp; omega)) rfl ?_ ?_) | (with_reducible refine BlkP.Blk.otherAt ?_ (by first | omega | (simp; done) | (simp; omega))) | (with_reducible refine BlkP.Blk.newA' (by first | omega | (simp; done) | (simp; omega)) rfl) | (with_reducible refine BlkP.Blk.alloc ?_ _) | (exact rfl))), by (repeat' (first | (with_reducible exact hN) | (with_reducible refine BlkP.Blk.drew ?_) | (with_reducible refine BlkP.Blk.drewN ?_ _) | (with_reducible refine BlkP.Blk.setAt (us := ?_) (by first | omega | (simp; done) | (simp; omega)) rfl ?_ ?_) | (with_reducible refine BlkP.Blk.otherAt ?_ (by first | omega | (simp; done) | (simp; omega))) | (with_reducible refine BlkP.Blk.newA' (by first | omega | (simp; done) | (simp; omega)) rfl) | (with_reducible refine BlkP.Blk.alloc ?_ _) | (exact rfl)))⟩ ?_
                clear hHeld hA hN
                rintro v6 ⟨hHeld, hA, hN⟩
                have hSv6 := hHeld.size
                refine wpAnyH_done (by kernel_rfl) ?_ _
                refine NoPanic.normal ?_
                go_wp2_with fail
                go_meet
                case rel =>
                  exact ⟨_, _, rfl, rfl, by omega, by omega, by omega, hA, hN, hHeld⟩
              exact AllReadyH.nil
            exact AllReadyH.nil
          exact AllReadyH.nil
        refine AllReadyH.cons (o := ⟨some 8, _, _, _, _, _⟩) rfl (fun K hK => ?_) ?_
        · go_simp
          refine hK.out _ _ (hHeld.alloc hHeld.size _) (fun hHeld => ?_)
          clear hK K
          have lA := hA.lt
          refine any_named (fun W => Below W0.heap.size W0 W ∧ Blk W v1.heap.size 24 [.int .i64 0, .int .i64 0, .int .i64 0] ∧ Blk W v2.heap.size 24 [.int .i64 0, .int .i64 0, .int .i64 0]) ⟨hHeld, by (repeat' (first | (with_reducible exact hA) | (with_reducible refine BlkP.Blk.drew ?_) | (with_reducible refine BlkP.Blk.drewN ?_ _) | (with_reducible refine BlkP.Blk.setAt (us := ?_) (by first | omega | (simp; done) | (simp; omega)) rfl ?_ ?_) | (with_reducible refine BlkP.Blk.otherAt ?_ (by first | omega | (simp; done) | (simp; omega))) | (with_reducible refine BlkP.Blk.newA' (by first | omega | (simp; done) | (simp; omega)) rfl) | (with_reducible refine BlkP.Blk.alloc ?_ _) | (exact rfl))), by (repeat' (first | (with_reducible refine BlkP.Blk.drew ?_) | (with_reducible refine BlkP.Blk.drewN ?_ _) | (with_reducible refine BlkP.Blk.setAt (us := ?_) (by first | omega | (simp; done) | (simp; omega)) rfl ?_ ?_) | (with_reducible refine BlkP.Blk.otherAt ?_ (by first | omega | (simp; done) | (simp; omega))) | (with_reducible refine BlkP.Blk.newA' (by first | omega | (simp; done) | (simp; omega)) rfl) | (with_reducible refine BlkP.Blk.alloc ?_ _) | (exact rfl)))⟩ ?_
          clear hHeld hA
          rintro v3 ⟨hHeld, hA, hN⟩
          have hSv3 := hHeld.size
          refine wpAnyH_ready (rs := [3]) (by kernel_rfl) (by simp) ?_
          refine AllReadyH.cons (o := ⟨some 18, _, _, _, _, _⟩) rfl (fun K hK => ?_) ?_
          · go_simp
            refine (numbers_c (q := q) _).mono ?_
            rintro e wf ⟨rfl, hbf⟩
            go_wp2_with fail
            refine hK.out _ _ (below_t hHeld hbf) (fun hHeld => ?_)
            clear hK K
            refine any_named (fun W => Below W0.heap.size W0 W ∧ Blk W v1.heap.size 24 [.int .i64 0, .int .i64 0, .int .i64 0] ∧ Blk W v2.heap.size 24 [.int .i64 0, .int .i64 0, .int .i64 0]) ⟨hHeld, hA.below hbf, hN.below hbf⟩ ?_
            clear hHeld hA hN
            rintro v4 ⟨hHeld, hA, hN⟩
            have hSv4 := hHeld.size
            refine wpAnyH_ready (rs := [6]) (by kernel_rfl) (by simp) ?_
            refine AllReadyH.cons (o := ⟨none, _, _, _, _, _⟩) rfl (fun K hK => ?_) ?_
            · have e0 := hA.cell (i := 0) (v := .int .i64 0) rfl
              have f0 := hA.frozen 0
              have e1 := hA.cell (i := 1) (v := .int .i64 0) rfl
              have f1 := hA.frozen 1
              have e2 := hA.cell (i := 2) (v := .int .i64 0) rfl
              have f2 := hA.frozen 2
              have lA := hA.lt
              have lN := hN.lt
              go_simp
              refine hK.out _ _ (by (repeat' (first | (with_reducible exact Below.refl _ _) | (with_reducible refine Below.setCell ?_ (by (first | omega | (simp; done) | (simp; omega))) _) | (with_reducible refine Below.alloc ?_ (by (first | omega | (simp; done) | (simp; omega))) _) | (with_reducible refine Below.drew ?_) | (with_reducible refine below_drewN ?_ _) | (with_reducible refine Below.trans ?_ (Below.mono hHeld (by (first | omega | (simp; done) | (simp; omega)))))))) (fun hHeld => ?_)
              clear hK K
              clear e0 e1 e2 f0 f1 f2
              refine any_named (fun W => Below W0.heap.size W0 W ∧ Blk W v1.heap.size 24 [.int .i64 p.x, .int .i64 p.y, .int .i64 p.z] ∧ Blk W v2.heap.size 24 [.int .i64 0, .int .i64 0, .int .i64 0]) ⟨hHeld, by (repeat' (first | (with_reducible exact hA) | (with_reducible refine BlkP.Blk.drew ?_) | (with_reducible refine BlkP.Blk.drewN ?_ _) | (with_reducible refine BlkP.Blk.setAt (us := ?_) (by first | omega | (simp; done) | (simp; omega)) rfl ?_ ?_) | (with_reducible refine BlkP.Blk.otherAt ?_ (by first | omega | (simp; done) | (simp; omega))) | (with_reducible refine BlkP.Blk.newA' (by first | omega | (simp; done) | (simp; omega)) rfl) | (with_reducible refine BlkP.Blk.alloc ?_ _) | (exact rfl))), by (repeat' (first | (with_reducible exact hN) | (with_reducible refine BlkP.Blk.drew ?_) | (with_reducible refine BlkP.Blk.drewN ?_ _) | (with_reducible refine BlkP.Blk.setAt (us := ?_) (by first | omega | (simp; done) | (simp; omega)) rfl ?_ ?_) | (with_reducible refine BlkP.Blk.otherAt ?_ (by first | omega | (simp; done) | (simp; omega))) | (with_reducible refine BlkP.Blk.newA' (by first | omega | (simp; done) | (simp; omega)) rfl) | (with_reducible refine BlkP.Blk.alloc ?_ _) | (exact rfl)))⟩ ?_
              clear hHeld hA hN
              rintro v5 ⟨hHeld, hA, hN⟩
              have hSv5 := hHeld.size
              refine wpAnyH_ready (rs := [7]) (by kernel_rfl) (by simp) ?_
              refine AllReadyH.cons (o := ⟨none, _, _, _, _, _⟩) rfl (fun K hK => ?_) ?_
              · have e0 := hN.cell (i := 0) (v := .int .i64 0) rfl
                have f0 := hN.frozen 0
                have e1 := hN.cell (i := 1) (v := .int .i64 0) rfl
                have f1 := hN.frozen 1
                have e2 := hN.cell (i := 2) (v := .int .i64 0) rfl
                have f2 := hN.frozen 2
                have lA := hA.lt
                have lN := hN.lt
                go_simp
                refine hK.out _ _ (by (repeat' (first | (with_reducible exact Below.refl _ _) | (with_reducible refine Below.setCell ?_ (by (first | omega | (simp; done) | (simp; omega))) _) | (with_reducible refine Below.alloc ?_ (by (first | omega | (simp; done) | (simp; omega))) _) | (with_reducible refine Below.drew ?_) | (with_reducible refine below_drewN ?_ _) | (with_reducible refine Below.trans ?_ (Below.mono hHeld (by (first | omega | (simp; done) | (simp; omega)))))))) (fun hHeld => ?_)
                clear hK K
                clear e0 e1 e2 f0 f1 f2
                refine any_named (fun W => Below W0.heap.size W0 W ∧ Blk W v1.heap.size 24 [.int .i64 p.x, .int .i64 p.y, .int .i64 p.z] ∧ Blk W v2.heap.size 24 [.int .i64 q.x, .int .i64 q.y, .int .i64 q.z]) ⟨hHeld, by (repeat' (first | (with_reducible exact hA) | (with_reducible refine BlkP.Blk.drew ?_) | (with_reducible refine BlkP.Blk.drewN ?_ _) | (with_reducible refine BlkP.Blk.setAt (us := ?_) (by first | omega | (simp; done) | (simp; omega)) rfl ?_ ?_) | (with_reducible refine BlkP.Blk.otherAt ?_ (by first | omega | (simp; done) | (simp; omega))) | (with_reducible refine BlkP.Blk.newA' (by first | omega | (simp; done) | (simp; omega)) rfl) | (with_reducible refine BlkP.Blk.alloc ?_ _) | (exact rfl))), by (repeat' (first | (with_reducible exact hN) | (with_reducible refine BlkP.Blk.drew ?_) | (with_reducible refine BlkP.Blk.drewN ?_ _) | (with_reducible refine BlkP.Blk.setAt (us := ?_) (by first | omega | (simp; done) | (simp; omega)) rfl ?_ ?_) | (with_reducible refine BlkP.Blk.otherAt ?_ (by first | omega | (simp; done) | (simp; omega))) | (with_reducible refine BlkP.Blk.newA' (by first | omega | (simp; done) | (simp; omega)) rfl) | (with_reducible refine BlkP.Blk.alloc ?_ _) | (exact rfl)))⟩ ?_
                clear hHeld hA hN
                rintro v6 ⟨hHeld, hA, hN⟩
                have hSv6 := hHeld.size
                refine wpAnyH_done (by kernel_rfl) ?_ _
                refine NoPanic.normal ?_
                go_wp2_with fail
                go_meet
                case rel =>
                  exact ⟨_, _, rfl, rfl, by omega, by omega, by omega, hA, hN, hHeld⟩
              exact AllReadyH.nil
            exact AllReadyH.nil
          exact AllReadyH.nil
        exact AllReadyH.nil
      refine AllReadyH.cons (o := ⟨some 8, _, _, _, _, _⟩) rfl (fun K hK => ?_) ?_
      · go_simp
        refine hK.out _ _ (hHeld.alloc hHeld.size _) (fun hHeld => ?_)
        clear hK K
        refine any_named (fun W => Below W0.heap.size W0 W ∧ Blk W v1.heap.size 24 [.int .i64 0, .int .i64 0, .int .i64 0]) ⟨hHeld, by (repeat' (first | (with_reducible refine BlkP.Blk.drew ?_) | (with_reducible refine BlkP.Blk.drewN ?_ _) | (with_reducible refine BlkP.Blk.setAt (us := ?_) (by first | omega | (simp; done) | (simp; omega)) rfl ?_ ?_) | (with_reducible refine BlkP.Blk.otherAt ?_ (by first | omega | (simp; done) | (simp; omega))) | (with_reducible refine BlkP.Blk.newA' (by first | omega | (simp; done) | (simp; omega)) rfl) | (with_reducible refine BlkP.Blk.alloc ?_ _) | (exact rfl)))⟩ ?_
        clear hHeld
        rintro v2 ⟨hHeld, hN⟩
        have hSv2 := hHeld.size
        refine wpAnyH_ready (rs := [3, 4]) (by kernel_rfl) (by simp) ?_
        refine AllReadyH.cons (o := ⟨some 18, _, _, _, _, _⟩) rfl (fun K hK => ?_) ?_
        · go_simp
          refine (numbers_c (q := q) _).mono ?_
          rintro e wf ⟨rfl, hbf⟩
          go_wp2_with fail
          refine hK.out _ _ (below_t hHeld hbf) (fun hHeld => ?_)
          clear hK K
          refine any_named (fun W => Below W0.heap.size W0 W ∧ Blk W v1.heap.size 24 [.int .i64 0, .int .i64 0, .int .i64 0]) ⟨hHeld, hN.below hbf⟩ ?_
          clear hHeld hN
          rintro v3 ⟨hHeld, hN⟩
          have hSv3 := hHeld.size
          refine wpAnyH_ready (rs := [4]) (by kernel_rfl) (by simp) ?_
          refine AllReadyH.cons (o := ⟨some 7, _, _, _, _, _⟩) rfl (fun K hK => ?_) ?_
          · go_simp
            refine hK.out _ _ (hHeld.alloc hHeld.size _) (fun hHeld => ?_)
            clear hK K
            have lN := hN.lt
            refine any_named (fun W => Below W0.heap.size W0 W ∧ Blk W v3.heap.size 24 [.int .i64 0, .int .i64 0, .int .i64 0] ∧ Blk W v1.heap.size 24 [.int .i64 0, .int .i64 0, .int .i64 0]) ⟨hHeld, by (repeat' (first | (with_reducible refine BlkP.Blk.drew ?_) | (with_reducible refine BlkP.Blk.drewN ?_ _) | (with_reducible refine BlkP.Blk.setAt (us := ?_) (by first | omega | (simp; done) | (simp; omega)) rfl ?_ ?_) | (with_reducible refine BlkP.Blk.otherAt ?_ (by first | omega | (simp; done) | (simp; omega))) | (with_reducible refine BlkP.Blk.newA' (by first | omega | (simp; done) | (simp; omega)) rfl) | (with_reducible refine BlkP.Blk.alloc ?_ _) | (exact rfl))), by (repeat' (first | (with_reducible exact hN) | (with_reducible refine BlkP.Blk.drew ?_) | (with_reducible refine BlkP.Blk.drewN ?_ _) | (with_reducible refine BlkP.Blk.setAt (us := ?_) (by first | omega | (simp; done) | (simp; omega)) rfl ?_ ?_) | (with_reducible refine BlkP.Blk.otherAt ?_ (by first | omega | (simp; done) | (simp; omega))) | (with_reducible refine BlkP.Blk.newA' (by first | omega | (simp; done) | (simp; omega)) rfl) | (with_reducible refine BlkP.Blk.alloc ?_ _) | (exact rfl)))⟩ ?_
            clear hHeld hN
            rintro v4 ⟨hHeld, hA, hN⟩
            have hSv4 := hHeld.size
            refine wpAnyH_ready (rs := [6]) (by kernel_rfl) (by simp) ?_
            refine AllReadyH.cons (o := ⟨none, _, _, _, _, _⟩) rfl (fun K hK => ?_) ?_
            · have e0 := hA.cell (i := 0) (v := .int .i64 0) rfl
              have f0 := hA.frozen 0
              have e1 := hA.cell (i := 1) (v := .int .i64 0) rfl
              have f1 := hA.frozen 1
              have e2 := hA.cell (i := 2) (v := .int .i64 0) rfl
              have f2 := hA.frozen 2
              have lA := hA.lt
              have lN := hN.lt
              go_simp
              refine hK.out _ _ (by (repeat' (first | (with_reducible exact Below.refl _ _) | (with_reducible refine Below.setCell ?_ (by (first | omega | (simp; done) | (simp; omega))) _) | (with_reducible refine Below.alloc ?_ (by (first | omega | (simp; done) | (simp; omega))) _) | (with_reducible refine Below.drew ?_) | (with_reducible refine below_drewN ?_ _) | (with_reducible refine Below.trans ?_ (Below.mono hHeld (by (first | omega | (simp; done) | (simp; omega)))))))) (fun hHeld => ?_)
              clear hK K
              clear e0 e1 e2 f0 f1 f2
              refine any_named (fun W => Below W0.heap.size W0 W ∧ Blk W v3.heap.size 24 [.int .i64 p.x, .int .i64 p.y, .int .i64 p.z] ∧ Blk W v1.heap.size 24 [.int .i64 0, .int .i64 0, .int .i64 0]) ⟨hHeld, by (repeat' (first | (with_reducible exact hA) | (with_reducible refine BlkP.Blk.drew ?_) | (with_reducible refine BlkP.Blk.drewN ?_ _) | (with_reducible refine BlkP.Blk.setAt (us := ?_) (by first | omega | (simp; done) | (simp; omega)) rfl ?_ ?_) | (with_reducible refine BlkP.Blk.otherAt ?_ (by first | omega | (simp; done) | (simp; omega))) | (with_reducible refine BlkP.Blk.newA' (by first | omega | (simp; done) | (simp; omega)) rfl) | (with_reducible refine BlkP.Blk.alloc ?_ _) | (exact rfl))), by (repeat' (first | (with_reducible exact hN) | (with_reducible refine BlkP.Blk.drew ?_) | (with_reducible refine BlkP.Blk.drewN ?_ _) | (with_reducible refine BlkP.Blk.setAt (us := ?_) (by first | omega | (simp; done) | (simp; omega)) rfl ?_ ?_) | (with_reducible refine BlkP.Blk.otherAt ?_ (by first | omega | (simp; done) | (simp; omega))) | (with_reducible refine BlkP.Blk.newA' (by first | omega | (simp; done) | (simp; omega)) rfl) | (with_reducible refine BlkP.Blk.alloc ?_ _) | (exact rfl)))⟩ ?_
              clear hHeld hA hN
              rintro v5 ⟨hHeld, hA, hN⟩
              have hSv5 := hHeld.size
              refine wpAnyH_ready (rs := [7]) (by kernel_rfl) (by simp) ?_
              refine AllReadyH.cons (o := ⟨none, _, _, _, _, _⟩) rfl (fun K hK => ?_) ?_
              · have e0 := hN.cell (i := 0) (v := .int .i64 0) rfl
                have f0 := hN.frozen 0
                have e1 := hN.cell (i := 1) (v := .int .i64 0) rfl
                have f1 := hN.frozen 1
                have e2 := hN.cell (i := 2) (v := .int .i64 0) rfl
                have f2 := hN.frozen 2
                have lA := hA.lt
                have lN := hN.lt
                go_simp
                refine hK.out _ _ (by (repeat' (first | (with_reducible exact Below.refl _ _) | (with_reducible refine Below.setCell ?_ (by (first | omega | (simp; done) | (simp; omega))) _) | (with_reducible refine Below.alloc ?_ (by (first | omega | (simp; done) | (simp; omega))) _) | (with_reducible refine Below.drew ?_) | (with_reducible refine below_drewN ?_ _) | (with_reducible refine Below.trans ?_ (Below.mono hHeld (by (first | omega | (simp; done) | (simp; omega)))))))) (fun hHeld => ?_)
                clear hK K
                clear e0 e1 e2 f0 f1 f2
                refine any_named (fun W => Below W0.heap.size W0 W ∧ Blk W v3.heap.size 24 [.int .i64 p.x, .int .i64 p.y, .int .i64 p.z] ∧ Blk W v1.heap.size 24 [.int .i64 q.x, .int .i64 q.y, .int .i64 q.z]) ⟨hHeld, by (repeat' (first | (with_reducible exact hA) | (with_reducible refine BlkP.Blk.drew ?_) | (with_reducible refine BlkP.Blk.drewN ?_ _) | (with_reducible refine BlkP.Blk.setAt (us := ?_) (by first | omega | (simp; done) | (simp; omega)) rfl ?_ ?_) | (with_reducible refine BlkP.Blk.otherAt ?_ (by first | omega | (simp; done) | (simp; omega))) | (with_reducible refine BlkP.Blk.newA' (by first | omega | (simp; done) | (simp; omega)) rfl) | (with_reducible refine BlkP.Blk.alloc ?_ _) | (exact rfl))), by (repeat' (first | (with_reducible exact hN) | (with_reducible refine BlkP.Blk.drew ?_) | (with_reducible refine BlkP.Blk.drewN ?_ _) | (with_reducible refine BlkP.Blk.setAt (us := ?_) (by first | omega | (simp; done) | (simp; omega)) rfl ?_ ?_) | (with_reducible refine BlkP.Blk.otherAt ?_ (by first | omega | (simp; done) | (simp; omega))) | (with_reducible refine BlkP.Blk.newA' (by first | omega | (simp; done) | (simp; omega)) rfl) | (with_reducible refine BlkP.Blk.alloc ?_ _) | (exact rfl)))⟩ ?_
                clear hHeld hA hN
                rintro v6 ⟨hHeld, hA, hN⟩
                have hSv6 := hHeld.size
                refine wpAnyH_done (by kernel_rfl) ?_ _
                refine NoPanic.normal ?_
                go_wp2_with fail
                go_meet
                case rel =>
                  exact ⟨_, _, rfl, rfl, by omega, by omega, by omega, hA, hN, hHeld⟩
              exact AllReadyH.nil
            exact AllReadyH.nil
          exact AllReadyH.nil
        refine AllReadyH.cons (o := ⟨some 7, _, _, _, _, _⟩) rfl (fun K hK => ?_) ?_
        · go_simp
          refine hK.out _ _ (hHeld.alloc hHeld.size _) (fun hHeld => ?_)
          clear hK K
          have lN := hN.lt
          refine any_named (fun W => Below W0.heap.size W0 W ∧ Blk W v2.heap.size 24 [.int .i64 0, .int .i64 0, .int .i64 0] ∧ Blk W v1.heap.size 24 [.int .i64 0, .int .i64 0, .int .i64 0]) ⟨hHeld, by (repeat' (first | (with_reducible refine BlkP.Blk.drew ?_) | (with_reducible refine BlkP.Blk.drewN ?_ _) | (with_reducible refine BlkP.Blk.setAt (us := ?_) (by first | omega | (simp; done) | (simp; omega)) rfl ?_ ?_) | (with_reducible refine BlkP.Blk.otherAt ?_ (by first | omega | (simp; done) | (simp; omega))) | (with_reducible refine BlkP.Blk.newA' (by first | omega | (simp; done) | (simp; omega)) rfl) | (with_reducible refine BlkP.Blk.alloc ?_ _) | (exact rfl))), by (repeat' (first | (with_reducible exact hN) | (with_reducible refine BlkP.Blk.drew ?_) | (with_reducible refine BlkP.Blk.drewN ?_ _) | (with_reducible refine BlkP.Blk.setAt (us := ?_) (by first | omega | (simp; done) | (simp; omega)) rfl ?_ ?_) | (with_reducible refine BlkP.Blk.otherAt ?_ (by first | omega | (simp; done) | (simp; omega))) | (with_reducible refine BlkP.Blk.newA' (by first | omega | (simp; done) | (simp; omega)) rfl) | (with_reducible refine BlkP.Blk.alloc ?_ _) | (exact rfl)))⟩ ?_
          clear hHeld hN
          rintro v3 ⟨hHeld, hA, hN⟩
          have hSv3 := hHeld.size
          refine wpAnyH_ready (rs := [3]) (by kernel_rfl) (by simp) ?_
          refine AllReadyH.cons (o := ⟨some 18, _, _, _, _, _⟩) rfl (fun K hK => ?_) ?_
          · go_simp
            refine (numbers_c (q := q) _).mono ?_
            rintro e wf ⟨rfl, hbf⟩
            go_wp2_with fail
            refine hK.out _ _ (below_t hHeld hbf) (fun hHeld => ?_)
            clear hK K
            refine any_named (fun W => Below W0.heap.size W0 W ∧ Blk W v2.heap.size 24 [.int .i64 0, .int .i64 0, .int .i64 0] ∧ Blk W v1.heap.size 24 [.int .i64 0, .int .i64 0, .int .i64 0]) ⟨hHeld, hA.below hbf, hN.below hbf⟩ ?_
            clear hHeld hA hN
            rintro v4 ⟨hHeld, hA, hN⟩
            have hSv4 := hHeld.size
            refine wpAnyH_ready (rs := [6]) (by kernel_rfl) (by simp) ?_
            refine AllReadyH.cons (o := ⟨none, _, _, _, _, _⟩) rfl (fun K hK => ?_) ?_
            · have e0 := hA.cell (i := 0) (v := .int .i64 0) rfl
              have f0 := hA.frozen 0
              have e1 := hA.cell (i := 1) (v := .int .i64 0) rfl
              have f1 := hA.frozen 1
              have e2 := hA.cell (i := 2) (v := .int .i64 0) rfl
              have f2 := hA.frozen 2
              have lA := hA.lt
              have lN := hN.lt
              go_simp
              refine hK.out _ _ (by (repeat' (first | (with_reducible exact Below.refl _ _) | (with_reducible refine Below.setCell ?_ (by (first | omega | (simp; done) | (simp; omega))) _) | (with_reducible refine Below.alloc ?_ (by (first | omega | (simp; done) | (simp; omega))) _) | (with_reducible refine Below.drew ?_) | (with_reducible refine below_drewN ?_ _) | (with_reducible refine Below.trans ?_ (Below.mono hHeld (by (first | omega | (simp; done) | (simp; omega)))))))) (fun hHeld => ?_)
              clear hK K
              clear e0 e1 e2 f0 f1 f2
              refine any_named (fun W => Below W0.heap.size W0 W ∧ Blk W v2.heap.size 24 [.int .i64 p.x, .int .i64 p.y, .int .i64 p.z] ∧ Blk W v1.heap.size 24 [.int .i64 0, .int .i64 0, .int .i64 0]) ⟨hHeld, by (repeat' (first | (with_reducible exact hA) | (with_reducible refine BlkP.Blk.drew ?_) | (with_reducible refine BlkP.Blk.drewN ?_ _) | (with_reducible refine BlkP.Blk.setAt (us := ?_) (by first | omega | (simp; done) | (simp; omega)) rfl ?_ ?_) | (with_reducible refine BlkP.Blk.otherAt ?_ (by first | omega | (simp; done) | (simp; omega))) | (with_reducible refine BlkP.Blk.newA' (by first | omega | (simp; done) | (simp; omega)) rfl) | (with_reducible refine BlkP.Blk.alloc ?_ _) | (exact rfl))), by (repeat' (first | (with_reducible exact hN) | (with_reducible refine BlkP.Blk.drew ?_) | (with_reducible refine BlkP.Blk.drewN ?_ _) | (with_reducible refine BlkP.Blk.setAt (us := ?_) (by first | omega | (simp; done) | (simp; omega)) rfl ?_ ?_) | (with_reducible refine BlkP.Blk.otherAt ?_ (by first | omega | (simp; done) | (simp; omega))) | (with_reducible refine BlkP.Blk.newA' (by first | omega | (simp; done) | (simp; omega)) rfl) | (with_reducible refine BlkP.Blk.alloc ?_ _) | (exact rfl)))⟩ ?_
              clear hHeld hA hN
              rintro v5 ⟨hHeld, hA, hN⟩
              have hSv5 := hHeld.size
              refine wpAnyH_ready (rs := [7]) (by kernel_rfl) (by simp) ?_
              refine AllReadyH.cons (o := ⟨none, _, _, _, _, _⟩) rfl (fun K hK => ?_) ?_
              · have e0 := hN.cell (i := 0) (v := .int .i64 0) rfl
                have f0 := hN.frozen 0
                have e1 := hN.cell (i := 1) (v := .int .i64 0) rfl
                have f1 := hN.frozen 1
                have e2 := hN.cell (i := 2) (v := .int .i64 0) rfl
                have f2 := hN.frozen 2
                have lA := hA.lt
                have lN := hN.lt
                go_simp
                refine hK.out _ _ (by (repeat' (first | (with_reducible exact Below.refl _ _) | (with_reducible refine Below.setCell ?_ (by (first | omega | (simp; done) | (simp; omega))) _) | (with_reducible refine Below.alloc ?_ (by (first | omega | (simp; done) | (simp; omega))) _) | (with_reducible refine Below.drew ?_) | (with_reducible refine below_drewN ?_ _) | (with_reducible refine Below.trans ?_ (Below.mono hHeld (by (first | omega | (simp; done) | (simp; omega)))))))) (fun hHeld => ?_)
                clear hK K
                clear e0 e1 e2 f0 f1 f2
                refine any_named (fun W => Below W0.heap.size W0 W ∧ Blk W v2.heap.size 24 [.int .i64 p.x, .int .i64 p.y, .int .i64 p.z] ∧ Blk W v1.heap.size 24 [.int .i64 q.x, .int .i64 q.y, .int .i64 q.z]) ⟨hHeld, by (repeat' (first | (with_reducible exact hA) | (with_reducible refine BlkP.Blk.drew ?_) | (with_reducible refine BlkP.Blk.drewN ?_ _) | (with_reducible refine BlkP.Blk.setAt (us := ?_) (by first | omega | (simp; done) | (simp; omega)) rfl ?_ ?_) | (with_reducible refine BlkP.Blk.otherAt ?_ (by first | omega | (simp; done) | (simp; omega))) | (with_reducible refine BlkP.Blk.newA' (by first | omega | (simp; done) | (simp; omega)) rfl) | (with_reducible refine BlkP.Blk.alloc ?_ _) | (exact rfl))), by (repeat' (first | (with_reducible exact hN) | (with_reducible refine BlkP.Blk.drew ?_) | (with_reducible refine BlkP.Blk.drewN ?_ _) | (with_reducible refine BlkP.Blk.setAt (us := ?_) (by first | omega | (simp; done) | (simp; omega)) rfl ?_ ?_) | (with_reducible refine BlkP.Blk.otherAt ?_ (by first | omega | (simp; done) | (simp; omega))) | (with_reducible refine BlkP.Blk.newA' (by first | omega | (simp; done) | (simp; omega)) rfl) | (with_reducible refine BlkP.Blk.alloc ?_ _) | (exact rfl)))⟩ ?_
                clear hHeld hA hN
                rintro v6 ⟨hHeld, hA, hN⟩
                have hSv6 := hHeld.size
                refine wpAnyH_done (by kernel_rfl) ?_ _
                refine NoPanic.normal ?_
                go_wp2_with fail
                go_meet
                case rel =>
                  exact ⟨_, _, rfl, rfl, by omega, by omega, by omega, hA, hN, hHeld⟩
              exact AllReadyH.nil
            exact AllReadyH.nil
          exact AllReadyH.nil
        exact AllReadyH.nil
      exact AllReadyH.nil
    refine AllReadyH.cons (o := ⟨some 7, _, _, _, _, _⟩) rfl (fun K hK => ?_) ?_
    · go_simp
      refine hK.out _ _ (hHeld.alloc hHeld.size _) (fun hHeld => ?_)
      clear hK K
      refine any_named (fun W => Below W0.heap.size W0 W ∧ Blk W v0.heap.size 24 [.int .i64 0, .int .i64 0, .int .i64 0]) ⟨hHeld, by (repeat' (first | (with_reducible refine BlkP.Blk.drew ?_) | (with_reducible refine BlkP.Blk.drewN ?_ _) | (with_reducible refine BlkP.Blk.setAt (us := ?_) (by first | omega | (simp; done) | (simp; omega)) rfl ?_ ?_) | (with_reducible refine BlkP.Blk.otherAt ?_ (by first | omega | (simp; done) | (simp; omega))) | (with_reducible refine BlkP.Blk.newA' (by first | omega | (simp; done) | (simp; omega)) rfl) | (with_reducible refine BlkP.Blk.alloc ?_ _) | (exact rfl)))⟩ ?_
      clear hHeld
      rintro v1 ⟨hHeld, hA⟩
      have hSv1 := hHeld.size
      refine wpAnyH_ready (rs := [1, 5]) (by kernel_rfl) (by simp) ?_
      refine AllReadyH.cons (o := ⟨some 16, _, _, _, _, _⟩) rfl (fun K hK => ?_) ?_
      · go_simp
        refine (numbers_c (q := p) _).mono ?_
        rintro e wf ⟨rfl, hbf⟩
        go_wp2_with fail
        refine hK.out _ _ (below_t hHeld hbf) (fun hHeld => ?_)
        clear hK K
        refine any_named (fun W => Below W0.heap.size W0 W ∧ Blk W v0.heap.size 24 [.int .i64 0, .int .i64 0, .int .i64 0]) ⟨hHeld, hA.below hbf⟩ ?_
        clear hHeld hA
        rintro v2 ⟨hHeld, hA⟩
        have hSv2 := hHeld.size
        refine wpAnyH_ready (rs := [3, 5]) (by kernel_rfl) (by simp) ?_
        refine AllReadyH.cons (o := ⟨some 18, _, _, _, _, _⟩) rfl (fun K hK => ?_) ?_
        · go_simp
          refine (numbers_c (q := q) _).mono ?_
          rintro e wf ⟨rfl, hbf⟩
          go_wp2_with fail
          refine hK.out _ _ (below_t hHeld hbf) (fun hHeld => ?_)
          clear hK K
          refine any_named (fun W => Below W0.heap.size W0 W ∧ Blk W v0.heap.size 24 [.int .i64 0, .int .i64 0, .int .i64 0]) ⟨hHeld, hA.below hbf⟩ ?_
          clear hHeld hA
          rintro v3 ⟨hHeld, hA⟩
          have hSv3 := hHeld.size
          refine wpAnyH_ready (rs := [5]) (by kernel_rfl) (by simp) ?_
          refine AllReadyH.cons (o := ⟨some 8, _, _, _, _, _⟩) rfl (fun K hK => ?_) ?_
          · go_simp
            refine hK.out _ _ (hHeld.alloc hHeld.size _) (fun hHeld => ?_)
            clear hK K
            have lA := hA.lt
            refine any_named (fun W => Below W0.heap.size W0 W ∧ Blk W v0.heap.size 24 [.int .i64 0, .int .i64 0, .int .i64 0] ∧ Blk W v3.heap.size 24 [.int .i64 0, .int .i64 0, .int .i64 0]) ⟨hHeld, by (repeat' (first | (with_reducible exact hA) | (with_reducible refine BlkP.Blk.drew ?_) | (with_reducible refine BlkP.Blk.drewN ?_ _) | (with_reducible refine BlkP.Blk.setAt (us := ?_) (by first | omega | (simp; done) | (simp; omega)) rfl ?_ ?_) | (with_reducible refine BlkP.Blk.otherAt ?_ (by first | omega | (simp; done) | (simp; omega))) | (with_reducible refine BlkP.Blk.newA' (by first | omega | (simp; done) | (simp; omega)) rfl) | (with_reducible refine BlkP.Blk.alloc ?_ _) | (exact rfl))), by (repeat' (first | (with_reducible refine BlkP.Blk.drew ?_) | (with_reducible refine BlkP.Blk.drewN ?_ _) | (with_reducible refine BlkP.Blk.setAt (us := ?_) (by first | omega | (simp; done) | (simp; omega)) rfl ?_ ?_) | (with_reducible refine BlkP.Blk.otherAt ?_ (by first | omega | (simp; done) | (simp; omega))) | (with_reducible refine BlkP.Blk.newA' (by first | omega | (simp; done) | (simp; omega)) rfl) | (with_reducible refine BlkP.Blk.alloc ?_ _) | (exact rfl)))⟩ ?_
            clear hHeld hA
            rintro v4 ⟨hHeld, hA, hN⟩
            have hSv4 := hHeld.size
            refine wpAnyH_ready (rs := [6]) (by kernel_rfl) (by simp) ?_
            refine AllReadyH.cons (o := ⟨none, _, _, _, _, _⟩) rfl (fun K hK => ?_) ?_
            · have e0 := hA.cell (i := 0) (v := .int .i64 0) rfl
              have f0 := hA.frozen 0
              have e1 := hA.cell (i := 1) (v := .int .i64 0) rfl
              have f1 := hA.frozen 1
              have e2 := hA.cell (i := 2) (v := .int .i64 0) rfl
              have f2 := hA.frozen 2
              have lA := hA.lt
              have lN := hN.lt
              go_simp
              refine hK.out _ _ (by (repeat' (first | (with_reducible exact Below.refl _ _) | (with_reducible refine Below.setCell ?_ (by (first | omega | (simp; done) | (simp; omega))) _) | (with_reducible refine Below.alloc ?_ (by (first | omega | (simp; done) | (simp; omega))) _) | (with_reducible refine Below.drew ?_) | (with_reducible refine below_drewN ?_ _) | (with_reducible refine Below.trans ?_ (Below.mono hHeld (by (first | omega | (simp; done) | (simp; omega)))))))) (fun hHeld => ?_)
              clear hK K
              clear e0 e1 e2 f0 f1 f2
              refine any_named (fun W => Below W0.heap.size W0 W ∧ Blk W v0.heap.size 24 [.int .i64 p.x, .int .i64 p.y, .int .i64 p.z] ∧ Blk W v3.heap.size 24 [.int .i64 0, .int .i64 0, .int .i64 0]) ⟨hHeld, by (repeat' (first | (with_reducible exact hA) | (with_reducible refine BlkP.Blk.drew ?_) | (with_reducible refine BlkP.Blk.drewN ?_ _) | (with_reducible refine BlkP.Blk.setAt (us := ?_) (by first | omega | (simp; done) | (simp; omega)) rfl ?_ ?_) | (with_reducible refine BlkP.Blk.otherAt ?_ (by first | omega | (simp; done) | (simp; omega))) | (with_reducible refine BlkP.Blk.newA' (by first | omega | (simp; done) | (simp; omega)) rfl) | (with_reducible refine BlkP.Blk.alloc ?_ _) | (exact rfl))), by (repeat' (first | (with_reducible exact hN) | (with_reducible refine BlkP.Blk.drew ?_) | (with_reducible refine BlkP.Blk.drewN ?_ _) | (with_reducible refine BlkP.Blk.setAt (us := ?_) (by first | omega | (simp; done) | (simp; omega)) rfl ?_ ?_) | (with_reducible refine BlkP.Blk.otherAt ?_ (by first | omega | (simp; done) | (simp; omega))) | (with_reducible refine BlkP.Blk.newA' (by first | omega | (simp; done) | (simp; omega)) rfl) | (with_reducible refine BlkP.Blk.alloc ?_ _) | (exact rfl)))⟩ ?_
              clear hHeld hA hN
              rintro v5 ⟨hHeld, hA, hN⟩
              have hSv5 := hHeld.size
              refine wpAnyH_ready (rs := [7]) (by kernel_rfl) (by simp) ?_
              refine AllReadyH.cons (o := ⟨none, _, _, _, _, _⟩) rfl (fun K hK => ?_) ?_
              · have e0 := hN.cell (i := 0) (v := .int .i64 0) rfl
                have f0 := hN.frozen 0
                have e1 := hN.cell (i := 1) (v := .int .i64 0) rfl
                have f1 := hN.frozen 1
                have e2 := hN.cell (i := 2) (v := .int .i64 0) rfl
                have f2 := hN.frozen 2
                have lA := hA.lt
                have lN := hN.lt
                go_simp
                refine hK.out _ _ (by (repeat' (first | (with_reducible exact Below.refl _ _) | (with_reducible refine Below.setCell ?_ (by (first | omega | (simp; done) | (simp; omega))) _) | (with_reducible refine Below.alloc ?_ (by (first | omega | (simp; done) | (simp; omega))) _) | (with_reducible refine Below.drew ?_) | (with_reducible refine below_drewN ?_ _) | (with_reducible refine Below.trans ?_ (Below.mono hHeld (by (first | omega | (simp; done) | (simp; omega)))))))) (fun hHeld => ?_)
                clear hK K
                clear e0 e1 e2 f0 f1 f2
                refine any_named (fun W => Below W0.heap.size W0 W ∧ Blk W v0.heap.size 24 [.int .i64 p.x, .int .i64 p.y, .int .i64 p.z] ∧ Blk W v3.heap.size 24 [.int .i64 q.x, .int .i64 q.y, .int .i64 q.z]) ⟨hHeld, by (repeat' (first | (with_reducible exact hA) | (with_reducible refine BlkP.Blk.drew ?_) | (with_reducible refine BlkP.Blk.drewN ?_ _) | (with_reducible refine BlkP.Blk.setAt (us := ?_) (by first | omega | (simp; done) | (simp; omega)) rfl ?_ ?_) | (with_reducible refine BlkP.Blk.otherAt ?_ (by first | omega | (simp; done) | (simp; omega))) | (with_reducible refine BlkP.Blk.newA' (by first | omega | (simp; done) | (simp; omega)) rfl) | (with_reducible refine BlkP.Blk.alloc ?_ _) | (exact rfl))), by (repeat' (first | (with_reducible exact hN) | (with_reducible refine BlkP.Blk.drew ?_) | (with_reducible refine BlkP.Blk.drewN ?_ _) | (with_reducible refine BlkP.Blk.setAt (us := ?_) (by first | omega | (simp; done) | (simp; omega)) rfl ?_ ?_) | (with_reducible refine BlkP.Blk.otherAt ?_ (by first | omega | (simp; done) | (simp; omega))) | (with_reducible refine BlkP.Blk.newA' (by first | omega | (simp; done) | (simp; omega)) rfl) | (with_reducible refine BlkP.Blk.alloc ?_ _) | (exact rfl)))⟩ ?_
                clear hHeld hA hN
                rintro v6 ⟨hHeld, hA, hN⟩
                have hSv6 := hHeld.size
                refine wpAnyH_done (by kernel_rfl) ?_ _
                refine NoPanic.normal ?_
                go_wp2_with fail
                go_meet
                case rel =>
                  exact ⟨_, _, rfl, rfl, by omega, by omega, by omega, hA, hN, hHeld⟩
              exact AllReadyH.nil
            exact AllReadyH.nil
          exact AllReadyH.nil
        refine AllReadyH.cons (o := ⟨some 8, _, _, _, _, _⟩) rfl (fun K hK => ?_) ?_
        · go_simp
          refine hK.out _ _ (hHeld.alloc hHeld.size _) (fun hHeld => ?_)
          clear hK K
          have lA := hA.lt
          refine any_named (fun W => Below W0.heap.size W0 W ∧ Blk W v0.heap.size 24 [.int .i64 0, .int .i64 0, .int .i64 0] ∧ Blk W v2.heap.size 24 [.int .i64 0, .int .i64 0, .int .i64 0]) ⟨hHeld, by (repeat' (first | (with_reducible exact hA) | (with_reducible refine BlkP.Blk.drew ?_) | (with_reducible refine BlkP.Blk.drewN ?_ _) | (with_reducible refine BlkP.Blk.setAt (us := ?_) (by first | omega | (simp; done) | (simp; omega)) rfl ?_ ?_) | (with_reducible refine BlkP.Blk.otherAt ?_ (by first | omega | (simp; done) | (simp; omega))) | (with_reducible refine BlkP.Blk.newA' (by first | omega | (simp; done) | (simp; omega)) rfl) | (with_reducible refine BlkP.Blk.alloc ?_ _) | (exact rfl))), by (repeat' (first | (with_reducible refine BlkP.Blk.drew ?_) | (with_reducible refine BlkP.Blk.drewN ?_ _) | (with_reducible refine BlkP.Blk.setAt (us := ?_) (by first | omega | (simp; done) | (simp; omega)) rfl ?_ ?_) | (with_reducible refine BlkP.Blk.otherAt ?_ (by first | omega | (simp; done) | (simp; omega))) | (with_reducible refine BlkP.Blk.newA' (by first | omega | (simp; done) | (simp; omega)) rfl) | (with_reducible refine BlkP.Blk.alloc ?_ _) | (exact rfl)))⟩ ?_
          clear hHeld hA
          rintro v3 ⟨hHeld, hA, hN⟩
          have hSv3 := hHeld.size
          refine wpAnyH_ready (rs := [3]) (by kernel_rfl) (by simp) ?_
          refine AllReadyH.cons (o := ⟨some 18, _, _, _, _, _⟩) rfl (fun K hK => ?_) ?_
          · go_simp
            refine (numbers_c (q := q) _).mono ?_
            rintro e wf ⟨rfl, hbf⟩
            go_wp2_with fail
            refine hK.out _ _ (below_t hHeld hbf) (fun hHeld => ?_)
            clear hK K
            refine any_named (fun W => Below W0.heap.size W0 W ∧ Blk W v0.heap.size 24 [.int .i64 0, .int .i64 0, .int .i64 0] ∧ Blk W v2.heap.size 24 [.int .i64 0, .int .i64 0, .int .i64 0]) ⟨hHeld, hA.below hbf, hN.below hbf⟩ ?_
            clear hHeld hA hN
            rintro v4 ⟨hHeld, hA, hN⟩
            have hSv4 := hHeld.size
            refine wpAnyH_ready (rs := [6]) (by kernel_rfl) (by simp) ?_
            refine AllReadyH.cons (o := ⟨none, _, _, _, _, _⟩) rfl (fun K hK => ?_) ?_
            · have e0 := hA.cell (i := 0) (v := .int .i64 0) rfl
              have f0 := hA.frozen 0
              have e1 := hA.cell (i := 1) (v := .int .i64 0) rfl
              have f1 := hA.frozen 1
              have e2 := hA.cell (i := 2) (v := .int .i64 0) rfl
              have f2 := hA.frozen 2
              have lA := hA.lt
              have lN := hN.lt
              go_simp
              refine hK.out _ _ (by (repeat' (first | (with_reducible exact Below.refl _ _) | (with_reducible refine Below.setCell ?_ (by (first | omega | (simp; done) | (simp; omega))) _) | (with_reducible refine Below.alloc ?_ (by (first | omega | (simp; done) | (simp; omega))) _) | (with_reducible refine Below.drew ?_) | (with_reducible refine below_drewN ?_ _) | (with_reducible refine Below.trans ?_ (Below.mono hHeld (by (first | omega | (simp; done) | (simp; omega)))))))) (fun hHeld => ?_)
              clear hK K
              clear e0 e1 e2 f0 f1 f2
              refine any_named (fun W => Below W0.heap.size W0 W ∧ Blk W v0.heap.size 24 [.int .i64 p.x, .int .i64 p.y, .int .i64 p.z] ∧ Blk W v2.heap.size 24 [.int .i64 0, .int .i64 0, .int .i64 0]) ⟨hHeld, by (repeat' (first | (with_reducible exact hA) | (with_reducible refine BlkP.Blk.drew ?_) | (with_reducible refine BlkP.Blk.drewN ?_ _) | (with_reducible refine BlkP.Blk.setAt (us := ?_) (by first | omega | (simp; done) | (simp; omega)) rfl ?_ ?_) | (with_reducible refine BlkP.Blk.otherAt ?_ (by first | omega | (simp; done) | (simp; omega))) | (with_reducible refine BlkP.Blk.newA' (by first | omega | (simp; done) | (simp; omega)) rfl) | (with_reducible refine BlkP.Blk.alloc ?_ _) | (exact rfl))), by (repeat' (first | (with_reducible exact hN) | (with_reducible refine BlkP.Blk.drew ?_) | (with_reducible refine BlkP.Blk.drewN ?_ _) | (with_reducible refine BlkP.Blk.setAt (us := ?_) (by first | omega | (simp; done) | (simp; omega)) rfl ?_ ?_) | (with_reducible refine BlkP.Blk.otherAt ?_ (by first | omega | (simp; done) | (simp; omega))) | (with_reducible refine BlkP.Blk.newA' (by first | omega | (simp; done) | (simp; omega)) rfl) | (with_reducible refine BlkP.Blk.alloc ?_ _) | (exact rfl)))⟩ ?_
              clear hHeld hA hN
              rintro v5 ⟨hHeld, hA, hN⟩
              have hSv5 := hHeld.size
              refine wpAnyH_ready (rs := [7]) (by kernel_rfl) (by simp) ?_
              refine AllReadyH.cons (o := ⟨none, _, _, _, _, _⟩) rfl (fun K hK => ?_) ?_
              · have e0 := hN.cell (i := 0) (v := .int .i64 0) rfl
                have f0 := hN.frozen 0
                have e1 := hN.cell (i := 1) (v := .int .i64 0) rfl
                have f1 := hN.frozen 1
                have e2 := hN.cell (i := 2) (v := .int .i64 0) rfl
                have f2 := hN.frozen 2
                have lA := hA.lt
                have lN := hN.lt
                go_simp
                refine hK.out _ _ (by (repeat' (first | (with_reducible exact Below.refl _ _) | (with_reducible refine Below.setCell ?_ (by (first | omega | (simp; done) | (simp; omega))) _) | (with_reducible refine Below.alloc ?_ (by (first | omega | (simp; done) | (simp; omega))) _) | (with_reducible refine Below.drew ?_) | (with_reducible refine below_drewN ?_ _) | (with_reducible refine Below.trans ?_ (Below.mono hHeld (by (first | omega | (simp; done) | (simp; omega)))))))) (fun hHeld => ?_)
                clear hK K
                clear e0 e1 e2 f0 f1 f2
                refine any_named (fun W => Below W0.heap.size W0 W ∧ Blk W v0.heap.size 24 [.int .i64 p.x, .int .i64 p.y, .int .i64 p.z] ∧ Blk W v2.heap.size 24 [.int .i64 q.x, .int .i64 q.y, .int .i64 q.z]) ⟨hHeld, by (repeat' (first | (with_reducible exact hA) | (with_reducible refine BlkP.Blk.drew ?_) | (with_reducible refine BlkP.Blk.drewN ?_ _) | (with_reducible refine BlkP.Blk.setAt (us := ?_) (by first | omega | (simp; done) | (simp; omega)) rfl ?_ ?_) | (with_reducible refine BlkP.Blk.otherAt ?_ (by first | omega | (simp; done) | (simp; omega))) | (with_reducible refine BlkP.Blk.newA' (by first | omega | (simp; done) | (simp; omega)) rfl) | (with_reducible refine BlkP.Blk.alloc ?_ _) | (exact rfl))), by (repeat' (first | (with_reducible exact hN) | (with_reducible refine BlkP.Blk.drew ?_) | (with_reducible refine BlkP.Blk.drewN ?_ _) | (with_reducible refine BlkP.Blk.setAt (us := ?_) (by first | omega | (simp; done) | (simp; omega)) rfl ?_ ?_) | (with_reducible refine BlkP.Blk.otherAt ?_ (by first | omega | (simp; done) | (simp; omega))) | (with_reducible refine BlkP.Blk.newA' (by first | omega | (simp; done) | (simp; omega)) rfl) | (with_reducible refine BlkP.Blk.alloc ?_ _) | (exact rfl)))⟩ ?_
                clear hHeld hA hN
                rintro v6 ⟨hHeld, hA, hN⟩
                have hSv6 := hHeld.size
                refine wpAnyH_done (by kernel_rfl) ?_ _
                refine NoPanic.normal ?_
                go_wp2_with fail
                go_meet
                case rel =>
                  exact ⟨_, _, rfl, rfl, by omega, by omega, by omega, hA, hN, hHeld⟩
              exact AllReadyH.nil
            exact AllReadyH.nil
          exact AllReadyH.nil
        exact AllReadyH.nil
      refine AllReadyH.cons (o := ⟨some 8, _, _, _, _, _⟩) rfl (fun K hK => ?_) ?_
      · go_simp
        refine hK.out _ _ (hHeld.alloc hHeld.size _) (fun hHeld => ?_)
        clear hK K
        have lA := hA.lt
        refine any_named (fun W => Below W0.heap.size W0 W ∧ Blk W v0.heap.size 24 [.int .i64 0, .int .i64 0, .int .i64 0] ∧ Blk W v1.heap.size 24 [.int .i64 0, .int .i64 0, .int .i64 0]) ⟨hHeld, by (repeat' (first | (with_reducible exact hA) | (with_reducible refine BlkP.Blk.drew ?_) | (with_reducible refine BlkP.Blk.drewN ?_ _) | (with_reducible refine BlkP.Blk.setAt (us := ?_) (by first | omega | (simp; done) | (simp; omega)) rfl ?_ ?_) | (with_reducible refine BlkP.Blk.otherAt ?_ (by first | omega | (simp; done) | (simp; omega))) | (with_reducible refine BlkP.Blk.newA' (by first | omega | (simp; done) | (simp; omega)) rfl) | (with_reducible refine BlkP.Blk.alloc ?_ _) | (exact rfl))), by (repeat' (first | (with_reducible refine BlkP.Blk.drew ?_) | (with_reducible refine BlkP.Blk.drewN ?_ _) | (with_reducible refine BlkP.Blk.setAt (us := ?_) (by first | omega | (simp; done) | (simp; omega)) rfl ?_ ?_) | (with_reducible refine BlkP.Blk.otherAt ?_ (by first | omega | (simp; done) | (simp; omega))) | (with_reducible refine BlkP.Blk.newA' (by first | omega | (simp; done) | (simp; omega)) rfl) | (with_reducible refine BlkP.Blk.alloc ?_ _) | (exact rfl)))⟩ ?_
        clear hHeld hA
        rintro v2 ⟨hHeld, hA, hN⟩
        have hSv2 := hHeld.size
        refine wpAnyH_ready (rs := [1]) (by kernel_rfl) (by simp) ?_
        refine AllReadyH.cons (o := ⟨some 16, _, _, _, _, _⟩) rfl (fun K hK => ?_) ?_
        · go_simp
          refine (numbers_c (q := p) _).mono ?_
          rintro e wf ⟨rfl, hbf⟩
          go_wp2_with fail
          refine hK.out _ _ (below_t hHeld hbf) (fun hHeld => ?_)
          clear hK K
          refine any_named (fun W => Below W0.heap.size W0 W ∧ Blk W v0.heap.size 24 [.int .i64 0, .int .i64 0, .int .i64 0] ∧ Blk W v1.heap.size 24 [.int .i64 0, .int .i64 0, .int .i64 0]) ⟨hHeld, hA.below hbf, hN.below hbf⟩ ?_
          clear hHeld hA hN
          rintro v3 ⟨hHeld, hA, hN⟩
          have hSv3 := hHeld.size
          refine wpAnyH_ready (rs := [3]) (by kernel_rfl) (by simp) ?_
          refine AllReadyH.cons (o := ⟨some 18, _, _, _, _, _⟩) rfl (fun K hK => ?_) ?_
          · go_simp
            refine (numbers_c (q := q) _).mono ?_
            rintro e wf ⟨rfl, hbf⟩
            go_wp2_with fail
            refine hK.out _ _ (below_t hHeld hbf) (fun hHeld => ?_)
            clear hK K
            refine any_named (fun W => Below W0.heap.size W0 W ∧ Blk W v0.heap.size 24 [.int .i64 0, .int .i64 0, .int .i64 0] ∧ Blk W v1.heap.size 24 [.int .i64 0, .int .i64 0, .int .i64 0]) ⟨hHeld, hA.below hbf, hN.below hbf⟩ ?_
            clear hHeld hA hN
            rintro v4 ⟨hHeld, hA, hN⟩
            have hSv4 := hHeld.size
            refine wpAnyH_ready (rs := [6]) (by kernel_rfl) (by simp) ?_
            refine AllReadyH.cons (o := ⟨none, _, _, _, _, _⟩) rfl (fun K hK => ?_) ?_
            · have e0 := hA.cell (i := 0) (v := .int .i64 0) rfl
              have f0 := hA.frozen 0
              have e1 := hA.cell (i := 1) (v := .int .i64 0) rfl
              have f1 := hA.frozen 1
              have e2 := hA.cell (i := 2) (v := .int .i64 0) rfl
              have f2 := hA.frozen 2
              have lA := hA.lt
              have lN := hN.lt
              go_simp
              refine hK.out _ _ (by (repeat' (first | (with_reducible exact Below.refl _ _) | (with_reducible refine Below.setCell ?_ (by (first | omega | (simp; done) | (simp; omega))) _) | (with_reducible refine Below.alloc ?_ (by (first | omega | (simp; done) | (simp; omega))) _) | (with_reducible refine Below.drew ?_) | (with_reducible refine below_drewN ?_ _) | (with_reducible refine Below.trans ?_ (Below.mono hHeld (by (first | omega | (simp; done) | (simp; omega)))))))) (fun hHeld => ?_)
              clear hK K
              clear e0 e1 e2 f0 f1 f2
              refine any_named (fun W => Below W0.heap.size W0 W ∧ Blk W v0.heap.size 24 [.int .i64 p.x, .int .i64 p.y, .int .i64 p.z] ∧ Blk W v1.heap.size 24 [.int .i64 0, .int .i64 0, .int .i64 0]) ⟨hHeld, by (repeat' (first | (with_reducible exact hA) | (with_reducible refine BlkP.Blk.drew ?_) | (with_reducible refine BlkP.Blk.drewN ?_ _) | (with_reducible refine BlkP.Blk.setAt (us := ?_) (by first | omega | (simp; done) | (simp; omega)) rfl ?_ ?_) | (with_reducible refine BlkP.Blk.otherAt ?_ (by first | omega | (simp; done) | (simp; omega))) | (with_reducible refine BlkP.Blk.newA' (by first | omega | (simp; done) | (simp; omega)) rfl) | (with_reducible refine BlkP.Blk.alloc ?_ _) | (exact rfl))), by (repeat' (first | (with_reducible exact hN) | (with_reducible refine BlkP.Blk.drew ?_) | (with_reducible refine BlkP.Blk.drewN ?_ _) | (with_reducible refine BlkP.Blk.setAt (us := ?_) (by first | omega | (simp; done) | (simp; omega)) rfl ?_ ?_) | (with_reducible refine BlkP.Blk.otherAt ?_ (by first | omega | (simp; done) | (simp; omega))) | (with_reducible refine BlkP.Blk.newA' (by first | omega | (simp; done) | (simp; omega)) rfl) | (with_reducible refine BlkP.Blk.alloc ?_ _) | (exact rfl)))⟩ ?_
              clear hHeld hA hN
              rintro v5 ⟨hHeld, hA, hN⟩
              have hSv5 := hHeld.size
              refine wpAnyH_ready (rs := [7]) (by kernel_rfl) (by simp) ?_
              refine AllReadyH.cons (o := ⟨none, _, _, _, _, _⟩) rfl (fun K hK => ?_) ?_
              · have e0 := hN.cell (i := 0) (v := .int .i64 0) rfl
                have f0 := hN.frozen 0
                have e1 := hN.cell (i := 1) (v := .int .i64 0) rfl
                have f1 := hN.frozen 1
                have e2 := hN.cell (i := 2) (v := .int .i64 0) rfl
                have f2 := hN.frozen 2
                have lA := hA.lt
                have lN := hN.lt
                go_simp
                refine hK.out _ _ (by (repeat' (first | (with_reducible exact Below.refl _ _) | (with_reducible refine Below.setCell ?_ (by (first | omega | (simp; done) | (simp; omega))) _) | (with_reducible refine Below.alloc ?_ (by (first | omega | (simp; done) | (simp; omega))) _) | (with_reducible refine Below.drew ?_) | (with_reducible refine below_drewN ?_ _) | (with_reducible refine Below.trans ?_ (Below.mono hHeld (by (first | omega | (simp; done) | (simp; omega)))))))) (fun hHeld => ?_)
                clear hK K
                clear e0 e1 e2 f0 f1 f2
                refine any_named (fun W => Below W0.heap.size W0 W ∧ Blk W v0.heap.size 24 [.int .i64 p.x, .int .i64 p.y, .int .i64 p.z] ∧ Blk W v1.heap.size 24 [.int .i64 q.x, .int .i64 q.y, .int .i64 q.z]) ⟨hHeld, by (repeat' (first | (with_reducible exact hA) | (with_reducible refine BlkP.Blk.drew ?_) | (with_reducible refine BlkP.Blk.drewN ?_ _) | (with_reducible refine BlkP.Blk.setAt (us := ?_) (by first | omega | (simp; done) | (simp; omega)) rfl ?_ ?_) | (with_reducible refine BlkP.Blk.otherAt ?_ (by first | omega | (simp; done) | (simp; omega))) | (with_reducible refine BlkP.Blk.newA' (by first | omega | (simp; done) | (simp; omega)) rfl) | (with_reducible refine BlkP.Blk.alloc ?_ _) | (exact rfl))), by (repeat' (first | (with_reducible exact hN) | (with_reducible refine BlkP.Blk.drew ?_) | (with_reducible refine BlkP.Blk.drewN ?_ _) | (with_reducible refine BlkP.Blk.setAt (us := ?_) (by first | omega | (simp; done) | (simp; omega)) rfl ?_ ?_) | (with_reducible refine BlkP.Blk.otherAt ?_ (by first | omega | (simp; done) | (simp; omega))) | (with_reducible refine BlkP.Blk.newA' (by first | omega | (simp; done) | (simp; omega)) rfl) | (with_reducible refine BlkP.Blk.alloc ?_ _) | (exact rfl)))⟩ ?_
                clear hHeld hA hN
                rintro v6 ⟨hHeld, hA, hN⟩
                have hSv6 := hHeld.size
                refine wpAnyH_done (by kernel_rfl) ?_ _
                refine NoPanic.normal ?_
                go_wp2_with fail
                go_meet
                case rel =>
                  exact ⟨_, _, rfl, rfl, by omega, by omega, by omega, hA, hN, hHeld⟩
              exact AllReadyH.nil
            exact AllReadyH.nil
          exact AllReadyH.nil
        exact AllReadyH.nil
      exact AllReadyH.nil
    refine AllReadyH.cons (o := ⟨some 8, _, _, _, _, _⟩) rfl (fun K hK => ?_) ?_
    · go_simp
      refine hK.out _ _ (hHeld.alloc hHeld.size _) (fun hHeld => ?_)
      clear hK K
      refine any_named (fun W => Below W0.heap.size W0 W ∧ Blk W v0.heap.size 24 [.int .i64 0, .int .i64 0, .int .i64 0]) ⟨hHeld, by (repeat' (first | (with_reducible refine BlkP.Blk.drew ?_) | (with_reducible refine BlkP.Blk.drewN ?_ _) | (with_reducible refine BlkP.Blk.setAt (us := ?_) (by first | omega | (simp; done) | (simp; omega)) rfl ?_ ?_) | (with_reducible refine BlkP.Blk.otherAt ?_ (by first | omega | (simp; done) | (simp; omega))) | (with_reducible refine BlkP.Blk.newA' (by first | omega | (simp; done) | (simp; omega)) rfl) | (with_reducible refine BlkP.Blk.alloc ?_ _) | (exact rfl)))⟩ ?_
      clear hHeld
      rintro v1 ⟨hHeld, hN⟩
      have hSv1 := hHeld.size
      refine wpAnyH_ready (rs := [1, 4]) (by kernel_rfl) (by simp) ?_
      refine AllReadyH.cons (o := ⟨some 16, _, _, _, _, _⟩) rfl (fun K hK => ?_) ?_
      · go_simp
        refine (numbers_c (q := p) _).mono ?_
        rintro e wf ⟨rfl, hbf⟩
        go_wp2_with fail
        refine hK.out _ _ (below_t hHeld hbf) (fun hHeld => ?_)
        clear hK K
        refine any_named (fun W => Below W0.heap.size W0 W ∧ Blk W v0.heap.size 24 [.int .i64 0, .int .i64 0, .int .i64 0]) ⟨hHeld, hN.below hbf⟩ ?_
        clear hHeld hN
        rintro v2 ⟨hHeld, hN⟩
        have hSv2 := hHeld.size
        refine wpAnyH_ready (rs := [3, 4]) (by kernel_rfl) (by simp) ?_
        refine AllReadyH.cons (o := ⟨some 18, _, _, _, _, _⟩) rfl (fun K hK => ?_) ?_
        · go_simp
          refine (numbers_c (q := q) _).mono ?_
          rintro e wf ⟨rfl, hbf⟩
          go_wp2_with fail
          refine hK.out _ _ (below_t hHeld hbf) (fun hHeld => ?_)
          clear hK K
          refine any_named (fun W => Below W0.heap.size W0 W ∧ Blk W v0.heap.size 24 [.int .i64 0, .int .i64 0, .int .i64 0]) ⟨hHeld, hN.below hbf⟩ ?_
          clear hHeld hN
          rintro v3 ⟨hHeld, hN⟩
          have hSv3 := hHeld.size
          refine wpAnyH_ready (rs := [4]) (by kernel_rfl) (by simp) ?_
          refine AllReadyH.cons (o := ⟨some 7, _, _, _, _, _⟩) rfl (fun K hK => ?_) ?_
          · go_simp
            refine hK.out _ _ (hHeld.alloc hHeld.size _) (fun hHeld => ?_)
            clear hK K
            have lN := hN.lt
            refine any_named (fun W => Below W0.heap.size W0 W ∧ Blk W v3.heap.size 24 [.int .i64 0, .int .i64 0, .int .i64 0] ∧ Blk W v0.heap.size 24 [.int .i64 0, .int .i64 0, .int .i64 0]) ⟨hHeld, by (repeat' (first | (with_reducible refine BlkP.Blk.drew ?_) | (with_reducible refine BlkP.Blk.drewN ?_ _) | (with_reducible refine BlkP.Blk.setAt (us := ?_) (by first | omega | (simp; done) | (simp; omega)) rfl ?_ ?_) | (with_reducible refine BlkP.Blk.otherAt ?_ (by first | omega | (simp; done) | (simp; omega))) | (with_reducible refine BlkP.Blk.newA' (by first | omega | (simp; done) | (simp; omega)) rfl) | (with_reducible refine BlkP.Blk.alloc ?_ _) | (exact rfl))), by (repeat' (first | (with_reducible exact hN) | (with_reducible refine BlkP.Blk.drew ?_) | (with_reducible refine BlkP.Blk.drewN ?_ _) | (with_reducible refine BlkP.Blk.setAt (us := ?_) (by first | omega | (simp; done) | (simp; omega)) rfl ?_ ?_) | (with_reducible refine BlkP.Blk.otherAt ?_ (by first | omega | (simp; done) | (simp; omega))) | (with_reducible refine BlkP.Blk.newA' (by first | omega | (simp; done) | (simp; omega)) rfl) | (with_reducible refine BlkP.Blk.alloc ?_ _) | (exact rfl)))⟩ ?_
            clear hHeld hN
            rintro v4 ⟨hHeld, hA, hN⟩
            have hSv4 := hHeld.size
            refine wpAnyH_ready (rs := [6]) (by kernel_rfl) (by simp) ?_
            refine AllReadyH.cons (o := ⟨none, _, _, _, _, _⟩) rfl (fun K hK => ?_) ?_
            · have e0 := hA.cell (i := 0) (v := .int .i64 0) rfl
              have f0 := hA.frozen 0
              have e1 := hA.cell (i := 1) (v := .int .i64 0) rfl
              have f1 := hA.frozen 1
              have e2 := hA.cell (i := 2) (v := .int .i64 0) rfl
              have f2 := hA.frozen 2
              have lA := hA.lt
              have lN := hN.lt
              go_simp
              refine hK.out _ _ (by (repeat' (first | (with_reducible exact Below.refl _ _) | (with_reducible refine Below.setCell ?_ (by (first | omega | (simp; done) | (simp; omega))) _) | (with_reducible refine Below.alloc ?_ (by (first | omega | (simp; done) | (simp; omega))) _) | (with_reducible refine Below.drew ?_) | (with_reducible refine below_drewN ?_ _) | (with_reducible refine Below.trans ?_ (Below.mono hHeld (by (first | omega | (simp; done) | (simp; omega)))))))) (fun hHeld => ?_)
              clear hK K
              clear e0 e1 e2 f0 f1 f2
              refine any_named (fun W => Below W0.heap.size W0 W ∧ Blk W v3.heap.size 24 [.int .i64 p.x, .int .i64 p.y, .int .i64 p.z] ∧ Blk W v0.heap.size 24 [.int .i64 0, .int .i64 0, .int .i64 0]) ⟨hHeld, by (repeat' (first | (with_reducible exact hA) | (with_reducible refine BlkP.Blk.drew ?_) | (with_reducible refine BlkP.Blk.drewN ?_ _) | (with_reducible refine BlkP.Blk.setAt (us := ?_) (by first | omega | (simp; done) | (simp; omega)) rfl ?_ ?_) | (with_reducible refine BlkP.Blk.otherAt ?_ (by first | omega | (simp; done) | (simp; omega))) | (with_reducible refine BlkP.Blk.newA' (by first | omega | (simp; done) | (simp; omega)) rfl) | (with_reducible refine BlkP.Blk.alloc ?_ _) | (exact rfl))), by (repeat' (first | (with_reducible exact hN) | (with_reducible refine BlkP.Blk.drew ?_) | (with_reducible refine BlkP.Blk.drewN ?_ _) | (with_reducible refine BlkP.Blk.setAt (us := ?_) (by first | omega | (simp; done) | (simp; omega)) rfl ?_ ?_) | (with_reducible refine BlkP.Blk.otherAt ?_ (by first | omega | (simp; done) | (simp; omega))) | (with_reducible refine BlkP.Blk.newA' (by first | omega | (simp; done) | (simp; omega)) rfl) | (with_reducible refine BlkP.Blk.alloc ?_ _) | (exact rfl)))⟩ ?_
              clear hHeld hA hN
              rintro v5 ⟨hHeld, hA, hN⟩
              have hSv5 := hHeld.size
              refine wpAnyH_ready (rs := [7]) (by kernel_rfl) (by simp) ?_
              refine AllReadyH.cons (o := ⟨none, _, _, _, _, _⟩) rfl (fun K hK => ?_) ?_
              · have e0 := hN.cell (i := 0) (v := .int .i64 0) rfl
                have f0 := hN.frozen 0
                have e1 := hN.cell (i := 1) (v := .int .i64 0) rfl
                have f1 := hN.frozen 1
                have e2 := hN.cell (i := 2) (v := .int .i64 0) rfl
                have f2 := hN.frozen 2
                have lA := hA.lt
                have lN := hN.lt
                go_simp
                refine hK.out _ _ (by (repeat' (first | (with_reducible exact Below.refl _ _) | (with_reducible refine Below.setCell ?_ (by (first | omega | (simp; done) | (simp; omega))) _) | (with_reducible refine Below.alloc ?_ (by (first | omega | (simp; done) | (simp; omega))) _) | (with_reducible refine Below.drew ?_) | (with_reducible refine below_drewN ?_ _) | (with_reducible refine Below.trans ?_ (Below.mono hHeld (by (first | omega | (simp; done) | (simp; omega)))))))) (fun hHeld => ?_)
                clear hK K
                clear e0 e1 e2 f0 f1 f2
                refine any_named (fun W => Below W0.heap.size W0 W ∧ Blk W v3.heap.size 24 [.int .i64 p.x, .int .i64 p.y, .int .i64 p.z] ∧ Blk W v0.heap.size 24 [.int .i64 q.x, .int .i64 q.y, .int .i64 q.z]) ⟨hHeld, by (repeat' (first | (with_reducible exact hA) | (with_reducible refine BlkP.Blk.drew ?_) | (with_reducible refine BlkP.Blk.drewN ?_ _) | (with_reducible refine BlkP.Blk.setAt (us := ?_) (by first | omega | (simp; done) | (simp; omega)) rfl ?_ ?_) | (with_reducible refine BlkP.Blk.otherAt ?_ (by first | omega | (simp; done) | (simp; omega))) | (with_reducible refine BlkP.Blk.newA' (by first | omega | (simp; done) | (simp; omega)) rfl) | (with_reducible refine BlkP.Blk.alloc ?_ _) | (exact rfl))), by (repeat' (first | (with_reducible exact hN) | (with_reducible refine BlkP.Blk.drew ?_) | (with_reducible refine BlkP.Blk.drewN ?_ _) | (with_reducible refine BlkP.Blk.setAt (us := ?_) (by first | omega | (simp; done) | (simp; omega)) rfl ?_ ?_) | (with_reducible refine BlkP.Blk.otherAt ?_ (by first | omega | (simp; done) | (simp; omega))) | (with_reducible refine BlkP.Blk.newA' (by first | omega | (simp; done) | (simp; omega)) rfl) | (with_reducible refine BlkP.Blk.alloc ?_ _) | (exact rfl)))⟩ ?_
                clear hHeld hA hN
                rintro v6 ⟨hHeld, hA, hN⟩
                have hSv6 := hHeld.size
                refine wpAnyH_done (by kernel_rfl) ?_ _
                refine NoPanic.normal ?_
                go_wp2_with fail
                go_meet
                case rel =>
                  exact ⟨_, _, rfl, rfl, by omega, by omega, by omega, hA, hN, hHeld⟩
              exact AllReadyH.nil
            exact AllReadyH.nil
          exact AllReadyH.nil
        refine AllReadyH.cons (o := ⟨some 7, _, _, _, _, _⟩) rfl (fun K hK => ?_) ?_
        · go_simp
          refine hK.out _ _ (hHeld.alloc hHeld.size _) (fun hHeld => ?_)
          clear hK K
          have lN := hN.lt
          refine any_named (fun W => Below W0.heap.size W0 W ∧ Blk W v2.heap.size 24 [.int .i64 0, .int .i64 0, .int .i64 0] ∧ Blk W v0.heap.size 24 [.int .i64 0, .int .i64 0, .int .i64 0]) ⟨hHeld, by (repeat' (first | (with_reducible refine BlkP.Blk.drew ?_) | (with_reducible refine BlkP.Blk.drewN ?_ _) | (with_reducible refine BlkP.Blk.setAt (us := ?_) (by first | omega | (simp; done) | (simp; omega)) rfl ?_ ?_) | (with_reducible refine BlkP.Blk.otherAt ?_ (by first | omega | (simp; done) | (simp; omega))) | (with_reducible refine BlkP.Blk.newA' (by first | omega | (simp; done) | (simp; omega)) rfl) | (with_reducible refine BlkP.Blk.alloc ?_ _) | (exact rfl))), by (repeat' (first | (with_reducible exact hN) | (with_reducible refine BlkP.Blk.drew ?_) | (with_reducible refine BlkP.Blk.drewN ?_ _) | (with_reducible refine BlkP.Blk.setAt (us := ?_) (by first | omega | (simp; done) | (simp; omega)) rfl ?_ ?_) | (with_reducible refine BlkP.Blk.otherAt ?_ (by first | omega | (simp; done) | (simp; omega))) | (with_reducible refine BlkP.Blk.newA' (by first | omega | (simp; done) | (simp; omega)) rfl) | (with_reducible refine BlkP.Blk.alloc ?_ _) | (exact rfl)))⟩ ?_
          clear hHeld hN
          rintro v3 ⟨hHeld, hA, hN⟩
          have hSv3 := hHeld.size
          refine wpAnyH_ready (rs := [3]) (by kernel_rfl) (by simp) ?_
          refine AllReadyH.cons (o := ⟨some 18, _, _, _, _, _⟩) rfl (fun K hK => ?_) ?_
          · go_simp
            refine (numbers_c (q := q) _).mono ?_
            rintro e wf ⟨rfl, hbf⟩
            go_wp2_with fail
            refine hK.out _ _ (below_t hHeld hbf) (fun hHeld => ?_)
            clear hK K
            refine any_named (fun W => Below W0.heap.size W0 W ∧ Blk W v2.heap.size 24 [.int .i64 0, .int .i64 0, .int .i64 0] ∧ Blk W v0.heap.size 24 [.int .i64 0, .int .i64 0, .int .i64 0]) ⟨hHeld, hA.below hbf, hN.below hbf⟩ ?_
            clear hHeld hA hN
            rintro v4 ⟨hHeld, hA, hN⟩
            have hSv4 := hHeld.size
            refine wpAnyH_ready (rs := [6]) (by kernel_rfl) (by simp) ?_
            refine AllReadyH.cons (o := ⟨none, _, _, _, _, _⟩) rfl (fun K hK => ?_) ?_
            · have e0 := hA.cell (i := 0) (v := .int .i64 0) rfl
              have f0 := hA.frozen 0
              have e1 := hA.cell (i := 1) (v := .int .i64 0) rfl
              have f1 := hA.frozen 1
              have e2 := hA.cell (i := 2) (v := .int .i64 0) rfl
              have f2 := hA.frozen 2
              have lA := hA.lt
              have lN := hN.lt
              go_simp
              refine hK.out _ _ (by (repeat' (first | (with_reducible exact Below.refl _ _) | (with_reducible refine Below.setCell ?_ (by (first | omega | (simp; done) | (simp; omega))) _) | (with_reducible refine Below.alloc ?_ (by (first | omega | (simp; done) | (simp; omega))) _) | (with_reducible refine Below.drew ?_) | (with_reducible refine below_drewN ?_ _) | (with_reducible refine Below.trans ?_ (Below.mono hHeld (by (first | omega | (simp; done) | (simp; omega)))))))) (fun hHeld => ?_)
              clear hK K
              clear e0 e1 e2 f0 f1 f2
              refine any_named (fun W => Below W0.heap.size W0 W ∧ Blk W v2.heap.size 24 [.int .i64 p.x, .int .i64 p.y, .int .i64 p.z] ∧ Blk W v0.heap.size 24 [.int .i64 0, .int .i64 0, .int .i64 0]) ⟨hHeld, by (repeat' (first | (with_reducible exact hA) | (with_reducible refine BlkP.Blk.drew ?_) | (with_reducible refine BlkP.Blk.drewN ?_ _) | (with_reducible refine BlkP.Blk.setAt (us := ?_) (by first | omega | (simp; done) | (simp; omega)) rfl ?_ ?_) | (with_reducible refine BlkP.Blk.otherAt ?_ (by first | omega | (simp; done) | (simp; omega))) | (with_reducible refine BlkP.Blk.newA' (by first | omega | (simp; done) | (simp; omega)) rfl) | (with_reducible refine BlkP.Blk.alloc ?_ _) | (exact rfl))), by (repeat' (first | (with_reducible exact hN) | (with_reducible refine BlkP.Blk.drew ?_) | (with_reducible refine BlkP.Blk.drewN ?_ _) | (with_reducible refine BlkP.Blk.setAt (us := ?_) (by first | omega | (simp; done) | (simp; omega)) rfl ?_ ?_) | (with_reducible refine BlkP.Blk.otherAt ?_ (by first | omega | (simp; done) | (simp; omega))) | (with_reducible refine BlkP.Blk.newA' (by first | omega | (simp; done) | (simp; omega)) rfl) | (with_reducible refine BlkP.Blk.alloc ?_ _) | (exact rfl)))⟩ ?_
              clear hHeld hA hN
              rintro v5 ⟨hHeld, hA, hN⟩
              have hSv5 := hHeld.size
              refine wpAnyH_ready (rs := [7]) (by kernel_rfl) (by simp) ?_
              refine AllReadyH.cons (o := ⟨none, _, _, _, _, _⟩) rfl (fun K hK => ?_) ?_
              · have e0 := hN.cell (i := 0) (v := .int .i64 0) rfl
                have f0 := hN.frozen 0
                have e1 := hN.cell (i := 1) (v := .int .i64 0) rfl
                have f1 := hN.frozen 1
                have e2 := hN.cell (i := 2) (v := .int .i64 0) rfl
                have f2 := hN.frozen 2
                have lA := hA.lt
                have lN := hN.lt
                go_simp
                refine hK.out _ _ (by (repeat' (first | (with_reducible exact Below.refl _ _) | (with_reducible refine Below.setCell ?_ (by (first | omega | (simp; done) | (simp; omega))) _) | (with_reducible refine Below.alloc ?_ (by (first | omega | (simp; done) | (simp; omega))) _) | (with_reducible refine Below.drew ?_) | (with_reducible refine below_drewN ?_ _) | (with_reducible refine Below.trans ?_ (Below.mono hHeld (by (first | omega | (simp; done) | (simp; omega)))))))) (fun hHeld => ?_)
                clear hK K
                clear e0 e1 e2 f0 f1 f2
                refine any_named (fun W => Below W0.heap.size W0 W ∧ Blk W v2.heap.size 24 [.int .i64 p.x, .int .i64 p.y, .int .i64 p.z] ∧ Blk W v0.heap.size 24 [.int .i64 q.x, .int .i64 q.y, .int .i64 q.z]) ⟨hHeld, by (repeat' (first | (with_reducible exact hA) | (with_reducible refine BlkP.Blk.drew ?_) | (with_reducible refine BlkP.Blk.drewN ?_ _) | (with_reducible refine BlkP.Blk.setAt (us := ?_) (by first | omega | (simp; done) | (simp; omega)) rfl ?_ ?_) | (with_reducible refine BlkP.Blk.otherAt ?_ (by first | omega | (simp; done) | (simp; omega))) | (with_reducible refine BlkP.Blk.newA' (by first | omega | (simp; done) | (simp; omega)) rfl) | (with_reducible refine BlkP.Blk.alloc ?_ _) | (exact rfl))), by (repeat' (first | (with_reducible exact hN) | (with_reducible refine BlkP.Blk.drew ?_) | (with_reducible refine BlkP.Blk.drewN ?_ _) | (with_reducible refine BlkP.Blk.setAt (us := ?_) (by first | omega | (simp; done) | (simp; omega)) rfl ?_ ?_) | (with_reducible refine BlkP.Blk.otherAt ?_ (by first | omega | (simp; done) | (simp; omega))) | (with_reducible refine BlkP.Blk.newA' (by first | omega | (simp; done) | (simp; omega)) rfl) | (with_reducible refine BlkP.Blk.alloc ?_ _) | (exact rfl)))⟩ ?_
                clear hHeld hA hN
                rintro v6 ⟨hHeld, hA, hN⟩
                have hSv6 := hHeld.size
                refine wpAnyH_done (by kernel_rfl) ?_ _
                refine NoPanic.normal ?_
                go_wp2_with fail
                go_meet
                case rel =>
                  exact ⟨_, _, rfl, rfl, by omega, by omega, by omega, hA, hN, hHeld⟩
              exact AllReadyH.nil
            exact AllReadyH.nil
          exact AllReadyH.nil
        exact AllReadyH.nil
      refine AllReadyH.cons (o := ⟨some 7, _, _, _, _, _⟩) rfl (fun K hK => ?_) ?_
      · go_simp
        refine hK.out _ _ (hHeld.alloc hHeld.size _) (fun hHeld => ?_)
        clear hK K
        have lN := hN.lt
        refine any_named (fun W => Below W0.heap.size W0 W ∧ Blk W v1.heap.size 24 [.int .i64 0, .int .i64 0, .int .i64 0] ∧ Blk W v0.heap.size 24 [.int .i64 0, .int .i64 0, .int .i64 0]) ⟨hHeld, by (repeat' (first | (with_reducible refine BlkP.Blk.drew ?_) | (with_reducible refine BlkP.Blk.drewN ?_ _) | (with_reducible refine BlkP.Blk.setAt (us := ?_) (by first | omega | (simp; done) | (simp; omega)) rfl ?_ ?_) | (with_reducible refine BlkP.Blk.otherAt ?_ (by first | omega | (simp; done) | (simp; omega))) | (with_reducible refine BlkP.Blk.newA' (by first | omega | (simp; done) | (simp; omega)) rfl) | (with_reducible refine BlkP.Blk.alloc ?_ _) | (exact rfl))), by (repeat' (first | (with_reducible exact hN) | (with_reducible refine BlkP.Blk.drew ?_) | (with_reducible refine BlkP.Blk.drewN ?_ _) | (with_reducible refine BlkP.Blk.setAt (us := ?_) (by first | omega | (simp; done) | (simp; omega)) rfl ?_ ?_) | (with_reducible refine BlkP.Blk.otherAt ?_ (by first | omega | (simp; done) | (simp; omega))) | (with_reducible refine BlkP.Blk.newA' (by first | omega | (simp; done) | (simp; omega)) rfl) | (with_reducible refine BlkP.Blk.alloc ?_ _) | (exact rfl)))⟩ ?_
        clear hHeld hN
        rintro v2 ⟨hHeld, hA, hN⟩
        have hSv2 := hHeld.size
        refine wpAnyH_ready (rs := [1]) (by kernel_rfl) (by simp) ?_
        refine AllReadyH.cons (o := ⟨some 16, _, _, _, _, _⟩) rfl (fun K hK => ?_) ?_
        · go_simp
          refine (numbers_c (q := p) _).mono ?_
          rintro e wf ⟨rfl, hbf⟩
          go_wp2_with fail
          refine hK.out _ _ (below_t hHeld hbf) (fun hHeld => ?_)
          clear hK K
          refine any_named (fun W => Below W0.heap.size W0 W ∧ Blk W v1.heap.size 24 [.int .i64 0, .int .i64 0, .int .i64 0] ∧ Blk W v0.heap.size 24 [.int .i64 0, .int .i64 0, .int .i64 0]) ⟨hHeld, hA.below hbf, hN.below hbf⟩ ?_
          clear hHeld hA hN
          rintro v3 ⟨hHeld, hA, hN⟩
          have hSv3 := hHeld.size
          refine wpAnyH_ready (rs := [3]) (by kernel_rfl) (by simp) ?_
          refine AllReadyH.cons (o := ⟨some 18, _, _, _, _, _⟩) rfl (fun K hK => ?_) ?_
          · go_simp
            refine (numbers_c (q := q) _).mono ?_
            rintro e wf ⟨rfl, hbf⟩
            go_wp2_with fail
            refine hK.out _ _ (below_t hHeld hbf) (fun hHeld => ?_)
            clear hK K
            refine any_named (fun W => Below W0.heap.size W0 W ∧ Blk W v1.heap.size 24 [.int .i64 0, .int .i64 0, .int .i64 0] ∧ Blk W v0.heap.size 24 [.int .i64 0, .int .i64 0, .int .i64 0]) ⟨hHeld, hA.below hbf, hN.below hbf⟩ ?_
            clear hHeld hA hN
            rintro v4 ⟨hHeld, hA, hN⟩
            have hSv4 := hHeld.size
            refine wpAnyH_ready (rs := [6]) (by kernel_rfl) (by simp) ?_
            refine AllReadyH.cons (o := ⟨none, _, _, _, _, _⟩) rfl (fun K hK => ?_) ?_
            · have e0 := hA.cell (i := 0) (v := .int .i64 0) rfl
              have f0 := hA.frozen 0
              have e1 := hA.cell (i := 1) (v := .int .i64 0) rfl
              have f1 := hA.frozen 1
              have e2 := hA.cell (i := 2) (v := .int .i64 0) rfl
              have f2 := hA.frozen 2
              have lA := hA.lt
              have lN := hN.lt
              go_simp
              refine hK.out _ _ (by (repeat' (first | (with_reducible exact Below.refl _ _) | (with_reducible refine Below.setCell ?_ (by (first | omega | (simp; done) | (simp; omega))) _) | (with_reducible refine Below.alloc ?_ (by (first | omega | (simp; done) | (simp; omega))) _) | (with_reducible refine Below.drew ?_) | (with_reducible refine below_drewN ?_ _) | (with_reducible refine Below.trans ?_ (Below.mono hHeld (by (first | omega | (simp; done) | (simp; omega)))))))) (fun hHeld => ?_)
              clear hK K
              clear e0 e1 e2 f0 f1 f2
              refine any_named (fun W => Below W0.heap.size W0 W ∧ Blk W v1.heap.size 24 [.int .i64 p.x, .int .i64 p.y, .int .i64 p.z] ∧ Blk W v0.heap.size 24 [.int .i64 0, .int .i64 0, .int .i64 0]) ⟨hHeld, by (repeat' (first | (with_reducible exact hA) | (with_reducible refine BlkP.Blk.drew ?_) | (with_reducible refine BlkP.Blk.drewN ?_ _) | (with_reducible refine BlkP.Blk.setAt (us := ?_) (by first | omega | (simp; done) | (simp; omega)) rfl ?_ ?_) | (with_reducible refine BlkP.Blk.otherAt ?_ (by first | omega | (simp; done) | (simp; omega))) | (with_reducible refine BlkP.Blk.newA' (by first | omega | (simp; done) | (simp; omega)) rfl) | (with_reducible refine BlkP.Blk.alloc ?_ _) | (exact rfl))), by (repeat' (first | (with_reducible exact hN) | (with_reducible refine BlkP.Blk.drew ?_) | (with_reducible refine BlkP.Blk.drewN ?_ _) | (with_reducible refine BlkP.Blk.setAt (us := ?_) (by first | omega | (simp; done) | (simp; omega)) rfl ?_ ?_) | (with_reducible refine BlkP.Blk.otherAt ?_ (by first | omega | (simp; done) | (simp; omega))) | (with_reducible refine BlkP.Blk.newA' (by first | omega | (simp; done) | (simp; omega)) rfl) | (with_reducible refine BlkP.Blk.alloc ?_ _) | (exact rfl)))⟩ ?_
              clear hHeld hA hN
              rintro v5 ⟨hHeld, hA, hN⟩
              have hSv5 := hHeld.size
              refine wpAnyH_ready (rs := [7]) (by kernel_rfl) (by simp) ?_
              refine AllReadyH.cons (o := ⟨none, _, _, _, _, _⟩) rfl (fun K hK => ?_) ?_
              · have e0 := hN.cell (i := 0) (v := .int .i64 0) rfl
                have f0 := hN.frozen 0
                have e1 := hN.cell (i := 1) (v := .int .i64 0) rfl
                have f1 := hN.frozen 1
                have e2 := hN.cell (i := 2) (v := .int .i64 0) rfl
                have f2 := hN.frozen 2
                have lA := hA.lt
                have lN := hN.lt
                go_simp
                refine hK.out _ _ (by (repeat' (first | (with_reducible exact Below.refl _ _) | (with_reducible refine Below.setCell ?_ (by (first | omega | (simp; done) | (simp; omega))) _) | (with_reducible refine Below.alloc ?_ (by (first | omega | (simp; done) | (simp; omega))) _) | (with_reducible refine Below.drew ?_) | (with_reducible refine below_drewN ?_ _) | (with_reducible refine Below.trans ?_ (Below.mono hHeld (by (first | omega | (simp; done) | (simp; omega)))))))) (fun hHeld => ?_)
                clear hK K
                clear e0 e1 e2 f0 f1 f2
                refine any_named (fun W => Below W0.heap.size W0 W ∧ Blk W v1.heap.size 24 [.int .i64 p.x, .int .i64 p.y, .int .i64 p.z] ∧ Blk W v0.heap.size 24 [.int .i64 q.x, .int .i64 q.y, .int .i64 q.z]) ⟨hHeld, by (repeat' (first | (with_reducible exact hA) | (with_reducible refine BlkP.Blk.drew ?_) | (with_reducible refine BlkP.Blk.drewN ?_ _) | (with_reducible refine BlkP.Blk.setAt (us := ?_) (by first | omega | (simp; done) | (simp; omega)) rfl ?_ ?_) | (with_reducible refine BlkP.Blk.otherAt ?_ (by first | omega | (simp; done) | (simp; omega))) | (with_reducible refine BlkP.Blk.newA' (by first | omega | (simp; done) | (simp; omega)) rfl) | (with_reducible refine BlkP.Blk.alloc ?_ _) | (exact rfl))), by (repeat' (first | (with_reducible exact hN) | (with_reducible refine BlkP.Blk.drew ?_) | (with_reducible refine BlkP.Blk.drewN ?_ _) | (with_reducible refine BlkP.Blk.setAt (us := ?_) (by first | omega | (simp; done) | (simp; omega)) rfl ?_ ?_) | (with_reducible refine BlkP.Blk.otherAt ?_ (by first | omega | (simp; done) | (simp; omega))) | (with_reducible refine BlkP.Blk.newA' (by first | omega | (simp; done) | (simp; omega)) rfl) | (with_reducible refine BlkP.Blk.alloc ?_ _) | (exact rfl)))⟩ ?_
                clear hHeld hA hN
                rintro v6 ⟨hHeld, hA, hN⟩
                have hSv6 := hHeld.size
                refine wpAnyH_done (by kernel_rfl) ?_ _
                refine NoPanic.normal ?_
                go_wp2_with fail
                go_meet
                case rel =>
                  exact ⟨_, _, rfl, rfl, by omega, by omega, by omega, hA, hN, hHeld⟩
              exact AllReadyH.nil
            exact AllReadyH.nil
          exact AllReadyH.nil
        exact AllReadyH.nil
      exact AllReadyH.nil
    exact AllReadyH.nil
  case rest =>
    obtain ⟨bA, bB, rfl, rfl, hne, sA, sB, hA, hB, hbc⟩ := hcut
    have HA := Lib.hid hA
    have HB := Lib.hid hB
    have HD2 := Lib.hid (HD.out.below hbc)
    have HBC := Lib.hid (HBW.out.trans (hbc.mono HBW.out.size))
    clear hA hB hbc HD HBW c0 c1 c2 c3 c4 c5 zz0 zz1
    go_wp2_with fail
    go_loopg [9] 3 (fun g v wr => ∃ i : Nat, i + g = 3 ∧ v = .int .i64 (i : Int) ∧ Below wc.heap.size wc wr)
    case atStart => exact ⟨0, by omega, rfl, Below.refl _ _⟩
    case round =>
      obtain ⟨i, hig, rfl, hby⟩ := hrel
      cases gk with
      | zero =>
        obtain rfl : i = 3 := by omega
        have HBY := Lib.hid hby
        clear hby
        go_wp2_with fail
        go_ret
        exact ⟨rfl, HBC.out.trans (HBY.out.mono HBC.out.size)⟩
      | succ g =>
        have hi : i < 3 := by omega
        have hiI : (i : Int) < 3 := by omega
        have hi0 : (0 : Int) ≤ (i : Int) := by omega
        have hit : decide ((i : Int) < 3) = true := decide_eq_true hiI
        have cA := numK_cell (HA.out.below hby) hi
        have cB := numK_cell (HB.out.below hby) hi
        have cD := numK_cell (HD2.out.below hby) hi
        have hpos := HQ.out.pos i
        have hsz := HQ.out.size i
        have hfar := HQ.out.far i
        have hax := HQ.out.ax i hi
        obtain ⟨P, hP⟩ : ∃ P, numK p i = P := ⟨_, rfl⟩
        obtain ⟨mi, hm⟩ : ∃ mi, m i = mi := ⟨_, rfl⟩
        obtain ⟨si, hs⟩ : ∃ si, s i = si := ⟨_, rfl⟩
        obtain ⟨Q, hQq⟩ : ∃ Q, numK q i = Q := ⟨_, rfl⟩
        obtain ⟨D, hDd⟩ : ∃ D, numK d i = D := ⟨_, rfl⟩
        unfold AxC at hax
        rw [hP] at cA hfar
        rw [hQq] at cB
        rw [hDd] at cD
        rw [hm] at hpos
        rw [hs] at hsz
        rw [hP, hm, hs, hQq, hDd] at hax
        have HM := Lib.hid hm
        have HS := Lib.hid hs
        have HBY := Lib.hid hby
        clear hP hm hs hQq hDd hby
        rcases hax with ⟨hD, hs0, hQ⟩ | ⟨hD, hs0, hQ⟩ | ⟨hD, hs0, hm0, hQ⟩
        · replace hD := hD.symm
          replace hQ := hQ.symm
          subst hD hQ
          have x1 : IntKind.i64.wrap (P - mi - P) = -mi := by rw [IntWalk.i64_in _ (by omega)]; omega
          have x2 : -(-mi) = mi := by omega
          have x3 : -(-si) = si := by omega
          have x4 : -si < 0 := by omega
          have x5 : (si == 0) = false := beq_eq_false_iff_ne.2 (by omega)
          go_wp2_with fail
          go_quiet (fail)
          clear x1 cA cB cD
          go_wp2_with fail
          refine HeldP.wp_named (fun W => Below wc.heap.size wc W) (by have := HBY.out; (repeat' (first | (with_reducible exact Below.refl _ _) | (with_reducible refine Below.setCell ?_ (by (first | omega | (simp; done) | (simp; omega))) _) | (with_reducible refine Below.alloc ?_ (by (first | omega | (simp; done) | (simp; omega))) _) | (with_reducible refine Below.drew ?_) | (with_reducible refine below_drewN ?_ _) | (with_reducible refine Below.trans ?_ (Below.mono this (by (first | omega | (simp; done) | (simp; omega)))))))) ?_
          rintro W2 hb2
          have HB2 := Lib.hid hb2
          clear hb2
          go_loopg [12] 3 (fun g2 v wy => ∃ k : Nat, k + g2 = 3 ∧ v = .int .i64 (k : Int) ∧ Below wc.heap.size wc wy)
          case atStart => exact ⟨0, by omega, rfl, HB2.out⟩
          case round =>
            obtain ⟨k, hkg, rfl, hbk⟩ := hrel
            cases gk with
            | zero =>
              obtain rfl : k = 3 := by omega
              have HBK := Lib.hid hbk
              clear hbk
              go_wp2_with fail
              go_roundg g
              case measure => omega
              case rel => exact ⟨i + 1, by omega, by go_num, by have := HBK.out; (repeat' (first | (with_reducible exact Below.refl _ _) | (with_reducible refine Below.setCell ?_ (by (first | omega | (simp; done) | (simp; omega))) _) | (with_reducible refine Below.alloc ?_ (by (first | omega | (simp; done) | (simp; omega))) _) | (with_reducible refine Below.drew ?_) | (with_reducible refine below_drewN ?_ _) | (with_reducible refine Below.trans ?_ (Below.mono this (by (first | omega | (simp; done) | (simp; omega)))))))⟩
            | succ g2 =>
              have hk : k < 3 := by omega
              have hkI : (k : Int) < 3 := by omega
              have hk0 : (0 : Int) ≤ (k : Int) := by omega
              have hkt : decide ((k : Int) < 3) = true := decide_eq_true hkI
              have dA := numK_cell (HA.out.below hbk) hk
              have dB := numK_cell (HB.out.below hbk) hk
              have dD := numK_cell (HD2.out.below hbk) hk
              have kpos := HQ.out.pos k
              have ksz := HQ.out.size k
              have kfar := HQ.out.far k
              have kax := HQ.out.ax k hk
              have kpair := HQ.out.pair i k
              have kb1 := prod_b (a := 2 * m i - 1) (b := s k) (by have := HQ.out.pos i; omega) (by have := HQ.out.pos i; omega) ksz.1 ksz.2
              have kb2 := prod_b (a := 2 * m k + 1) (b := s i) (by omega) (by omega) (HQ.out.size i).1 (HQ.out.size i).2
              rw [HM.out] at kpair kb1
              rw [HS.out] at kpair kb2
              obtain ⟨R, hR⟩ : ∃ R, numK p k = R := ⟨_, rfl⟩
              obtain ⟨nk, hn⟩ : ∃ nk, m k = nk := ⟨_, rfl⟩
              obtain ⟨tk, ht⟩ : ∃ tk, s k = tk := ⟨_, rfl⟩
              obtain ⟨Q, hQq⟩ : ∃ Q, numK q k = Q := ⟨_, rfl⟩
              obtain ⟨D, hDd⟩ : ∃ D, numK d k = D := ⟨_, rfl⟩
              unfold AxC at kax
              rw [hR] at dA kfar
              rw [hQq] at dB
              rw [hDd] at dD
              rw [hn] at kpos kpair kb2
              rw [ht] at ksz kpair kb1
              rw [hR, hn, ht, hQq, hDd] at kax
              have HBK := Lib.hid hbk
              clear hR hn ht hQq hDd hbk
              rcases kax with ⟨kD, ht0, kQ⟩ | ⟨kD, ht0, kQ⟩ | ⟨kD, ht0, hn0, kQ⟩
              · replace kD := kD.symm
                replace kQ := kQ.symm
                subst kD kQ
                have y1 : IntKind.i64.wrap (R - nk - R) = -nk := by rw [IntWalk.i64_in _ (by omega)]; omega
                have y2 : -(-nk) = nk := by omega
                have y3 : -(-tk) = tk := by omega
                have y4 : -tk < 0 := by omega
                go_wp2_with fail
                go_quiet (fail)
                clear y1 dA dB dD
                go_wp2_with fail
                go_roundg g2
                case measure => omega
                case rel => exact ⟨k + 1, by omega, by go_num, by have := HBK.out; (repeat' (first | (with_reducible exact Below.refl _ _) | (with_reducible refine Below.setCell ?_ (by (first | omega | (simp; done) | (simp; omega))) _) | (with_reducible refine Below.alloc ?_ (by (first | omega | (simp; done) | (simp; omega))) _) | (with_reducible refine Below.drew ?_) | (with_reducible refine below_drewN ?_ _) | (with_reducible refine Below.trans ?_ (Below.mono this (by (first | omega | (simp; done) | (simp; omega)))))))⟩
              · replace kD := kD.symm
                replace kQ := kQ.symm
                subst kD kQ
                have y1 : IntKind.i64.wrap (R + nk - R) = nk := by rw [IntWalk.i64_in _ (by omega)]; omega
                have y4 : ¬ tk < 0 := by omega
                go_wp2_with fail
                go_quiet (fail)
                clear y1 dA dB dD
                go_wp2_with fail
                go_roundg g2
                case measure => omega
                case rel => exact ⟨k + 1, by omega, by go_num, by have := HBK.out; (repeat' (first | (with_reducible exact Below.refl _ _) | (with_reducible refine Below.setCell ?_ (by (first | omega | (simp; done) | (simp; omega))) _) | (with_reducible refine Below.alloc ?_ (by (first | omega | (simp; done) | (simp; omega))) _) | (with_reducible refine Below.drew ?_) | (with_reducible refine below_drewN ?_ _) | (with_reducible refine Below.trans ?_ (Below.mono this (by (first | omega | (simp; done) | (simp; omega)))))))⟩
              · replace kD := kD.symm
                replace kQ := kQ.symm
                subst kD kQ
                have y1 : IntKind.i64.wrap (R - R) = 0 := by rw [IntWalk.i64_in _ (by omega)]; omega
                subst ht0 hn0
                go_wp2_with fail
                go_quiet (fail)
                clear y1 dA dB dD
                go_wp2_with fail
                go_roundg g2
                case measure => omega
                case rel => exact ⟨k + 1, by omega, by go_num, by have := HBK.out; (repeat' (first | (with_reducible exact Below.refl _ _) | (with_reducible refine Below.setCell ?_ (by (first | omega | (simp; done) | (simp; omega))) _) | (with_reducible refine Below.alloc ?_ (by (first | omega | (simp; done) | (simp; omega))) _) | (with_reducible refine Below.drew ?_) | (with_reducible refine below_drewN ?_ _) | (with_reducible refine Below.trans ?_ (Below.mono this (by (first | omega | (simp; done) | (simp; omega)))))))⟩
        · replace hD := hD.symm
          replace hQ := hQ.symm
          subst hD hQ
          have x1 : IntKind.i64.wrap (P + mi - P) = mi := by rw [IntWalk.i64_in _ (by omega)]; omega
          have x4 : ¬ si < 0 := by omega
          have x5 : (si == 0) = false := beq_eq_false_iff_ne.2 (by omega)
          go_wp2_with fail
          go_quiet (fail)
          clear x1 cA cB cD
          go_wp2_with fail
          refine HeldP.wp_named (fun W => Below wc.heap.size wc W) (by have := HBY.out; (repeat' (first | (with_reducible exact Below.refl _ _) | (with_reducible refine Below.setCell ?_ (by (first | omega | (simp; done) | (simp; omega))) _) | (with_reducible refine Below.alloc ?_ (by (first | omega | (simp; done) | (simp; omega))) _) | (with_reducible refine Below.drew ?_) | (with_reducible refine below_drewN ?_ _) | (with_reducible refine Below.trans ?_ (Below.mono this (by (first | omega | (simp; done) | (simp; omega)))))))) ?_
          rintro W2 hb2
          have HB2 := Lib.hid hb2
          clear hb2
          go_loopg [12] 3 (fun g2 v wy => ∃ k : Nat, k + g2 = 3 ∧ v = .int .i64 (k : Int) ∧ Below wc.heap.size wc wy)
          case atStart => exact ⟨0, by omega, rfl, HB2.out⟩
          case round =>
            obtain ⟨k, hkg, rfl, hbk⟩ := hrel
            cases gk with
            | zero =>
              obtain rfl : k = 3 := by omega
              have HBK := Lib.hid hbk
              clear hbk
              go_wp2_with fail
              go_roundg g
              case measure => omega
              case rel => exact ⟨i + 1, by omega, by go_num, by have := HBK.out; (repeat' (first | (with_reducible exact Below.refl _ _) | (with_reducible refine Below.setCell ?_ (by (first | omega | (simp; done) | (simp; omega))) _) | (with_reducible refine Below.alloc ?_ (by (first | omega | (simp; done) | (simp; omega))) _) | (with_reducible refine Below.drew ?_) | (with_reducible refine below_drewN ?_ _) | (with_reducible refine Below.trans ?_ (Below.mono this (by (first | omega | (simp; done) | (simp; omega)))))))⟩
            | succ g2 =>
              have hk : k < 3 := by omega
              have hkI : (k : Int) < 3 := by omega
              have hk0 : (0 : Int) ≤ (k : Int) := by omega
              have hkt : decide ((k : Int) < 3) = true := decide_eq_true hkI
              have dA := numK_cell (HA.out.below hbk) hk
              have dB := numK_cell (HB.out.below hbk) hk
              have dD := numK_cell (HD2.out.below hbk) hk
              have kpos := HQ.out.pos k
              have ksz := HQ.out.size k
              have kfar := HQ.out.far k
              have kax := HQ.out.ax k hk
              have kpair := HQ.out.pair i k
              have kb1 := prod_b (a := 2 * m i - 1) (b := s k) (by have := HQ.out.pos i; omega) (by have := HQ.out.pos i; omega) ksz.1 ksz.2
              have kb2 := prod_b (a := 2 * m k + 1) (b := s i) (by omega) (by omega) (HQ.out.size i).1 (HQ.out.size i).2
              rw [HM.out] at kpair kb1
              rw [HS.out] at kpair kb2
              obtain ⟨R, hR⟩ : ∃ R, numK p k = R := ⟨_, rfl⟩
              obtain ⟨nk, hn⟩ : ∃ nk, m k = nk := ⟨_, rfl⟩
              obtain ⟨tk, ht⟩ : ∃ tk, s k = tk := ⟨_, rfl⟩
              obtain ⟨Q, hQq⟩ : ∃ Q, numK q k = Q := ⟨_, rfl⟩
              obtain ⟨D, hDd⟩ : ∃ D, numK d k = D := ⟨_, rfl⟩
              unfold AxC at kax
              rw [hR] at dA kfar
              rw [hQq] at dB
              rw [hDd] at dD
              rw [hn] at kpos kpair kb2
              rw [ht] at ksz kpair kb1
              rw [hR, hn, ht, hQq, hDd] at kax
              have HBK := Lib.hid hbk
              clear hR hn ht hQq hDd hbk
              rcases kax with ⟨kD, ht0, kQ⟩ | ⟨kD, ht0, kQ⟩ | ⟨kD, ht0, hn0, kQ⟩
              · replace kD := kD.symm
                replace kQ := kQ.symm
                subst kD kQ
                have y1 : IntKind.i64.wrap (R - nk - R) = -nk := by rw [IntWalk.i64_in _ (by omega)]; omega
                have y2 : -(-nk) = nk := by omega
                have y3 : -(-tk) = tk := by omega
                have y4 : -tk < 0 := by omega
                go_wp2_with fail
                go_quiet (fail)
                clear y1 dA dB dD
                go_wp2_with fail
                go_roundg g2
                case measure => omega
                case rel => exact ⟨k + 1, by omega, by go_num, by have := HBK.out; (repeat' (first | (with_reducible exact Below.refl _ _) | (with_reducible refine Below.setCell ?_ (by (first | omega | (simp; done) | (simp; omega))) _) | (with_reducible refine Below.alloc ?_ (by (first | omega | (simp; done) | (simp; omega))) _) | (with_reducible refine Below.drew ?_) | (with_reducible refine below_drewN ?_ _) | (with_reducible refine Below.trans ?_ (Below.mono this (by (first | omega | (simp; done) | (simp; omega)))))))⟩
              · replace kD := kD.symm
                replace kQ := kQ.symm
                subst kD kQ
                have y1 : IntKind.i64.wrap (R + nk - R) = nk := by rw [IntWalk.i64_in _ (by omega)]; omega
                have y4 : ¬ tk < 0 := by omega
                go_wp2_with fail
                go_quiet (fail)
                clear y1 dA dB dD
                go_wp2_with fail
                go_roundg g2
                case measure => omega
                case rel => exact ⟨k + 1, by omega, by go_num, by have := HBK.out; (repeat' (first | (with_reducible exact Below.refl _ _) | (with_reducible refine Below.setCell ?_ (by (first | omega | (simp; done) | (simp; omega))) _) | (with_reducible refine Below.alloc ?_ (by (first | omega | (simp; done) | (simp; omega))) _) | (with_reducible refine Below.drew ?_) | (with_reducible refine below_drewN ?_ _) | (with_reducible refine Below.trans ?_ (Below.mono this (by (first | omega | (simp; done) | (simp; omega)))))))⟩
              · replace kD := kD.symm
                replace kQ := kQ.symm
                subst kD kQ
                have y1 : IntKind.i64.wrap (R - R) = 0 := by rw [IntWalk.i64_in _ (by omega)]; omega
                subst ht0 hn0
                go_wp2_with fail
                go_quiet (fail)
                clear y1 dA dB dD
                go_wp2_with fail
                go_roundg g2
                case measure => omega
                case rel => exact ⟨k + 1, by omega, by go_num, by have := HBK.out; (repeat' (first | (with_reducible exact Below.refl _ _) | (with_reducible refine Below.setCell ?_ (by (first | omega | (simp; done) | (simp; omega))) _) | (with_reducible refine Below.alloc ?_ (by (first | omega | (simp; done) | (simp; omega))) _) | (with_reducible refine Below.drew ?_) | (with_reducible refine below_drewN ?_ _) | (with_reducible refine Below.trans ?_ (Below.mono this (by (first | omega | (simp; done) | (simp; omega)))))))⟩
        · replace hD := hD.symm
          replace hQ := hQ.symm
          subst hD hQ
          have x1 : IntKind.i64.wrap (P - P) = 0 := by rw [IntWalk.i64_in _ (by omega)]; omega
          subst hs0 hm0
          go_wp2_with fail
          go_quiet (fail)
          clear x1 cA cB cD
          go_wp2_with fail
          refine HeldP.wp_named (fun W => Below wc.heap.size wc W) (by have := HBY.out; (repeat' (first | (with_reducible exact Below.refl _ _) | (with_reducible refine Below.setCell ?_ (by (first | omega | (simp; done) | (simp; omega))) _) | (with_reducible refine Below.alloc ?_ (by (first | omega | (simp; done) | (simp; omega))) _) | (with_reducible refine Below.drew ?_) | (with_reducible refine below_drewN ?_ _) | (with_reducible refine Below.trans ?_ (Below.mono this (by (first | omega | (simp; done) | (simp; omega)))))))) ?_
          rintro W2 hb2
          have HB2 := Lib.hid hb2
          clear hb2
          go_loopg [12] 3 (fun g2 v wy => ∃ k : Nat, k + g2 = 3 ∧ v = .int .i64 (k : Int) ∧ Below wc.heap.size wc wy)
          case atStart => exact ⟨0, by omega, rfl, HB2.out⟩
          case round =>
            obtain ⟨k, hkg, rfl, hbk⟩ := hrel
            cases gk with
            | zero =>
              obtain rfl : k = 3 := by omega
              have HBK := Lib.hid hbk
              clear hbk
              go_wp2_with fail
              go_roundg g
              case measure => omega
              case rel => exact ⟨i + 1, by omega, by go_num, by have := HBK.out; (repeat' (first | (with_reducible exact Below.refl _ _) | (with_reducible refine Below.setCell ?_ (by (first | omega | (simp; done) | (simp; omega))) _) | (with_reducible refine Below.alloc ?_ (by (first | omega | (simp; done) | (simp; omega))) _) | (with_reducible refine Below.drew ?_) | (with_reducible refine below_drewN ?_ _) | (with_reducible refine Below.trans ?_ (Below.mono this (by (first | omega | (simp; done) | (simp; omega)))))))⟩
            | succ g2 =>
              have hk : k < 3 := by omega
              have hkI : (k : Int) < 3 := by omega
              have hk0 : (0 : Int) ≤ (k : Int) := by omega
              have hkt : decide ((k : Int) < 3) = true := decide_eq_true hkI
              have dA := numK_cell (HA.out.below hbk) hk
              have dB := numK_cell (HB.out.below hbk) hk
              have dD := numK_cell (HD2.out.below hbk) hk
              have kpos := HQ.out.pos k
              have ksz := HQ.out.size k
              have kfar := HQ.out.far k
              have kax := HQ.out.ax k hk
              have kpair := HQ.out.pair i k
              have kb1 := prod_b (a := 2 * m i - 1) (b := s k) (by have := HQ.out.pos i; omega) (by have := HQ.out.pos i; omega) ksz.1 ksz.2
              have kb2 := prod_b (a := 2 * m k + 1) (b := s i) (by omega) (by omega) (HQ.out.size i).1 (HQ.out.size i).2
              rw [HM.out] at kpair kb1
              rw [HS.out] at kpair kb2
              obtain ⟨R, hR⟩ : ∃ R, numK p k = R := ⟨_, rfl⟩
              obtain ⟨nk, hn⟩ : ∃ nk, m k = nk := ⟨_, rfl⟩
              obtain ⟨tk, ht⟩ : ∃ tk, s k = tk := ⟨_, rfl⟩
              obtain ⟨Q, hQq⟩ : ∃ Q, numK q k = Q := ⟨_, rfl⟩
              obtain ⟨D, hDd⟩ : ∃ D, numK d k = D := ⟨_, rfl⟩
              unfold AxC at kax
              rw [hR] at dA kfar
              rw [hQq] at dB
              rw [hDd] at dD
              rw [hn] at kpos kpair kb2
              rw [ht] at ksz kpair kb1
              rw [hR, hn, ht, hQq, hDd] at kax
              have HBK := Lib.hid hbk
              clear hR hn ht hQq hDd hbk
              rcases kax with ⟨kD, ht0, kQ⟩ | ⟨kD, ht0, kQ⟩ | ⟨kD, ht0, hn0, kQ⟩
              · replace kD := kD.symm
                replace kQ := kQ.symm
                subst kD kQ
                have y1 : IntKind.i64.wrap (R - nk - R) = -nk := by rw [IntWalk.i64_in _ (by omega)]; omega
                have y2 : -(-nk) = nk := by omega
                have y3 : -(-tk) = tk := by omega
                have y4 : -tk < 0 := by omega
                go_wp2_with fail
                go_quiet (fail)
                clear y1 dA dB dD
                go_wp2_with fail
                go_roundg g2
                case measure => omega
                case rel => exact ⟨k + 1, by omega, by go_num, by have := HBK.out; (repeat' (first | (with_reducible exact Below.refl _ _) | (with_reducible refine Below.setCell ?_ (by (first | omega | (simp; done) | (simp; omega))) _) | (with_reducible refine Below.alloc ?_ (by (first | omega | (simp; done) | (simp; omega))) _) | (with_reducible refine Below.drew ?_) | (with_reducible refine below_drewN ?_ _) | (with_reducible refine Below.trans ?_ (Below.mono this (by (first | omega | (simp; done) | (simp; omega)))))))⟩
              · replace kD := kD.symm
                replace kQ := kQ.symm
                subst kD kQ
                have y1 : IntKind.i64.wrap (R + nk - R) = nk := by rw [IntWalk.i64_in _ (by omega)]; omega
                have y4 : ¬ tk < 0 := by omega
                go_wp2_with fail
                go_quiet (fail)
                clear y1 dA dB dD
                go_wp2_with fail
                go_roundg g2
                case measure => omega
                case rel => exact ⟨k + 1, by omega, by go_num, by have := HBK.out; (repeat' (first | (with_reducible exact Below.refl _ _) | (with_reducible refine Below.setCell ?_ (by (first | omega | (simp; done) | (simp; omega))) _) | (with_reducible refine Below.alloc ?_ (by (first | omega | (simp; done) | (simp; omega))) _) | (with_reducible refine Below.drew ?_) | (with_reducible refine below_drewN ?_ _) | (with_reducible refine Below.trans ?_ (Below.mono this (by (first | omega | (simp; done) | (simp; omega)))))))⟩
              · replace kD := kD.symm
                replace kQ := kQ.symm
                subst kD kQ
                have y1 : IntKind.i64.wrap (R - R) = 0 := by rw [IntWalk.i64_in _ (by omega)]; omega
                subst ht0 hn0
                go_wp2_with fail
                go_quiet (fail)
                clear y1 dA dB dD
                go_wp2_with fail
                go_roundg g2
                case measure => omega
                case rel => exact ⟨k + 1, by omega, by go_num, by have := HBK.out; (repeat' (first | (with_reducible exact Below.refl _ _) | (with_reducible refine Below.setCell ?_ (by (first | omega | (simp; done) | (simp; omega))) _) | (with_reducible refine Below.alloc ?_ (by (first | omega | (simp; done) | (simp; omega))) _) | (with_reducible refine Below.drew ?_) | (with_reducible refine below_drewN ?_ _) | (with_reducible refine Below.trans ?_ (Below.mono this (by (first | omega | (simp; done) | (simp; omega)))))))⟩
end RayP
end Go.Proofs.YtcmndfjoaoinjaaDoor
