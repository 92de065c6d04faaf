/-
  FallNext: what comes of every cell and what is near it is the document's, in new memory.
-/
import Derived.Deep.CutRange
import Derived.Test.YtlcnhommlcdilaaDoorFallRef
namespace Go.Proofs.YtlcnhommlcdilaaDoor
open Go.RowKit
set_option linter.unusedVariables false
set_option linter.unusedSimpArgs false
namespace FallW
open BlkP RowG FrS PushG CellsW NearW
open FallP hiding Cl
theorem yieldN {w : World} {a : Act} {o : Oper} {p : Nat} {n : Nr} {x : Operand} (ho : o.op = .load TN x) (hx : a.eval x = .pointer (some ⟨p, 0, none⟩)) (hk : Blk w p TN (vals n)) : (execOp a.eval o).run Tryd.prog w = .ok (.value (nv n)) w := by
  unfold execOp
  simp only [ho, hx, Instr.loadAt, Instr.sureAddr, Sem.run_bind, Sem.run_pure, Result.andThen_ok, run_loadN hk]
  rfl
/-- Two deeds that were answered, each in its block. -/
def CutD (k : Nat) (l : List (Nat × Cl)) (W0 : World) (s4 s5 : Value) (W : World) : Prop :=
  ∃ bA bN AR cR AQ cQ, s4 = .pointer (some ⟨bA, 0, none⟩) ∧ s5 = .pointer (some ⟨bN, 0, none⟩) ∧ bA ≠ bN ∧ W0.heap.size ≤ bA ∧ W0.heap.size ≤ bN ∧
    Blk W bA TD [.slice AR k cR, .int .i64 0, .int .i64 0] ∧ Blk W bN TD [.slice AQ k cQ, .int .i64 0, .int .i64 0] ∧ RowG.Own encX TX W W0.heap.size (.slice AR k cR) l ∧ RowG.Own encX TX W W0.heap.size (.slice AQ k cQ) l ∧
    (∀ g, (Value.slice AR k cR).ownBlock = some g → (Value.slice AQ k cQ).ownBlock ≠ some g) ∧ Below W0.heap.size W0 W
set_option maxRecDepth 100000 in
set_option maxHeartbeats 32000000 in
theorem law_next {w : World} (hT : KindW.Tab w) (n : Nr) : Calls Tryd.prog 3 #[nv n] w fun e w' => e = .returned (.bool true) ∧ Below w.heap.size w w' := by
  have HT := Lib.hid hT
  clear hT
  obtain ⟨l, hl⟩ : ∃ l, nextD n = l := ⟨_, rfl⟩
  have HL := Lib.hid hl
  obtain ⟨k, hk⟩ : ∃ k, l.length = k := ⟨_, rfl⟩
  have HK := Lib.hid hk
  have HK4 := Lib.hid (show k ≤ 100 from by
    rw [← hk, ← hl]
    unfold nextD
    split <;> simp)
  clear hl hk
  go_enter Tryd.func3, Tryd.ntmps3
  go_wp2_with ((with_reducible refine at_slot 1 ?_); refine Classical.byContradiction (fun hG => ?_))
  refine hG ?_
  clear hG
  refine wp_boxN rfl (.tmp 0) rfl rfl ?_
  intro w1 h1 hb1 hz1
  obtain ⟨s, hs⟩ : ∃ s, w.heap.size = s := ⟨_, rfl⟩
  rw [hs] at h1 hz1
  rw [hs]
  have HB1 := Lib.hid hb1
  have H1 := Lib.hid h1
  have HS := Lib.hid hs
  clear h1 hb1 hz1 hs
  go_wp2_with ((with_reducible refine at_slot 7 ?_); refine Classical.byContradiction (fun hG => ?_))
  refine hG ?_
  clear hG
  refine wp_loadN rfl (.tmp 1) rfl rfl (n := n) H1.out ?_
  go_wp2_with fail
  refine rNext_c.mono ?_
  rintro e w3 ⟨v, rfl, ho, hb3⟩
  rw [HL.out] at ho
  obtain ⟨A0, c0, rfl, _, _, _⟩ := ho.form HK.out
  have HB3 := Lib.hid (below_t HB1.out hb3)
  have H3 := Lib.hid (H1.out.below hb3)
  have HR3 := Lib.hid ho.rd
  have hz3 := HB3.out.size
  clear ho hb3
  obtain ⟨D, hD⟩ : ∃ D, w3.heap.size = D := ⟨_, rfl⟩
  go_wp2_with fail
  refine HeldP.wp_named (S := fun W => Below w3.heap.size w3 W ∧ Blk W D TD [.slice A0 k c0, .int .i64 0, .int .i64 0]) ⟨by (repeat' (first | (with_reducible exact Below.refl _ _) | (with_reducible refine Below.setCell ?_ (by (first | omega | (simp; done) | (simp; omega))) _) | (with_reducible refine Below.alloc ?_ (by (first | omega | (simp; done) | (simp; omega))) _) | (with_reducible refine Below.drew ?_) | (with_reducible refine below_drewN ?_ _))), by subst hD; (repeat' (first | (with_reducible refine BlkP.Blk.drew ?_) | (with_reducible refine BlkP.Blk.drewN ?_ _) | (with_reducible refine BlkP.Blk.setAt (us := ?_) (by first | omega | (simp; done) | (simp; omega)) rfl ?_ ?_) | (with_reducible refine BlkP.Blk.otherAt ?_ (by first | omega | (simp; done) | (simp; omega))) | (with_reducible refine BlkP.Blk.newA' (by first | omega | (simp; done) | (simp; omega)) rfl) | (with_reducible refine BlkP.Blk.alloc ?_ _) | (exact rfl)))⟩ ?_
  rintro W0 ⟨hb0, hd0⟩
  try rw [hD]
  have HB0 := Lib.hid (below_t HB3.out hb0)
  have H0 := Lib.hid (H3.out.below hb0)
  have HR0 := Lib.hid (HR3.out.below hb0)
  have HD0 := Lib.hid hd0
  clear hb0 hd0 hz3 hD
  go_cut [4, 5] from 9 to 12 (fun s4 s5 W => CutD k l W0 s4 s5 W)
  case first =>
    refine wp_region_noPanic ?_
    refine wp_region_held_drew (S := fun W => Below W0.heap.size W0 W) (by kernel_rfl) ((Below.refl _ W0).drew) (fun hHeld => ?_)
    refine wpAnyH_take (i := 0) (oi := ⟨some 9, _, _, _, _, _⟩) (v := nv n) rfl (by kernel_rfl) (by kernel_rfl) (by kernel_rfl) (fun _ _ _ h => h) (Or.inl ⟨by rfl, fun W hSW => yieldN rfl rfl (H0.out.below hSW)⟩) hHeld ?_
    simp only [Act.put, List.setIfInBounds_toArray, List.set_cons_zero, List.set_cons_succ]
    refine wpAnyH_take (i := 2) (oi := ⟨some 11, _, _, _, _, _⟩) (v := nv n) rfl (by kernel_rfl) (by kernel_rfl) (by kernel_rfl) (fun _ _ _ h => h) (Or.inl ⟨by rfl, fun W hSW => yieldN rfl rfl (H0.out.below hSW)⟩) hHeld ?_
    simp only [Act.put, List.setIfInBounds_toArray, List.set_cons_zero, List.set_cons_succ]
    refine any_named (fun W => Below W0.heap.size W0 W) hHeld ?_
    clear hHeld
    rintro v0 hHeld
    have hSv0 := hHeld.size
    refine wpAnyH_ready (rs := [1, 4, 5]) (by kernel_rfl) (by simp) ?_
    refine AllReadyH.cons (o := ⟨some 10, _, _, _, _, _⟩) rfl (fun K hK => ?_) ?_
    · have hHeld0 := hHeld.size
      go_simp
      refine (Next_c (n := n) (HT.out.below (below_t HB0.out hHeld))).mono ?_
      rintro e wf ⟨vf, rfl, hof, hbf⟩
      rw [HL.out] at hof
      obtain ⟨AR, cR, rfl, _, _, _⟩ := hof.form HK.out
      go_wp2_with fail
      refine hK.out _ _ (below_t hHeld hbf) (fun hHeld => ?_)
      clear hK K
      refine any_named (fun W => Below W0.heap.size W0 W ∧ RowG.Own encX TX W W0.heap.size (.slice AR k cR) l) ⟨hHeld, hof.mono (show W0.heap.size ≤ _ from hHeld0)⟩ ?_
      clear hHeld
      rintro v1 ⟨hHeld, hR⟩
      have hSv1 := hHeld.size
      clear hof hbf
      refine wpAnyH_ready (rs := [3, 4, 5]) (by kernel_rfl) (by simp) ?_
      refine AllReadyH.cons (o := ⟨some 12, _, _, _, _, _⟩) rfl (fun K hK => ?_) ?_
      · have hHeld0 := hHeld.size
        go_simp
        refine (Next_c (n := n) (HT.out.below (below_t HB0.out hHeld))).mono ?_
        rintro e wf ⟨vf, rfl, hof, hbf⟩
        rw [HL.out] at hof
        obtain ⟨AQ, cQ, rfl, _, _, _⟩ := hof.form HK.out
        have hDIF : ∀ g, (Value.slice AR k cR).ownBlock = some g → (Value.slice AQ k cQ).ownBlock ≠ some g := fun g h1 h2 => absurd (Nat.lt_of_lt_of_le (hR.ge g h1).2 (hof.ge g h2).1) (Nat.lt_irrefl _)
        go_wp2_with fail
        refine hK.out _ _ (below_t hHeld hbf) (fun hHeld => ?_)
        clear hK K
        refine any_named (fun W => Below W0.heap.size W0 W ∧ RowG.Own encX TX W W0.heap.size (.slice AR k cR) l ∧ RowG.Own encX TX W W0.heap.size (.slice AQ k cQ) l) ⟨hHeld, hR.below hbf, hof.mono (show W0.heap.size ≤ _ from hHeld0)⟩ ?_
        clear hHeld hR
        rintro v2 ⟨hHeld, hR, hQ⟩
        have hSv2 := hHeld.size
        clear hof hbf
        refine wpAnyH_ready (rs := [4, 5]) (by kernel_rfl) (by simp) ?_
        refine AllReadyH.cons (o := ⟨some 4, _, _, _, _, _⟩) rfl (fun K hK => ?_) ?_
        · go_simp
          refine hK.out _ _ (hHeld.alloc hHeld.size _) (fun hHeld => ?_)
          clear hK K
          refine any_named (fun W => Below W0.heap.size W0 W ∧ Blk W v2.heap.size TD [.slice none 0 0, .int .i64 0, .int .i64 0] ∧ RowG.Own encX TX W W0.heap.size (.slice AR k cR) l ∧ RowG.Own encX TX W W0.heap.size (.slice AQ k cQ) l) ⟨hHeld, by (repeat' (first | (with_reducible refine BlkP.Blk.drew ?_) | (with_reducible refine BlkP.Blk.drewN ?_ _) | (with_reducible refine BlkP.Blk.setAt (us := ?_) (by first | omega | (simp; done) | (simp; omega)) rfl ?_ ?_) | (with_reducible refine BlkP.Blk.otherAt ?_ (by first | omega | (simp; done) | (simp; omega))) | (with_reducible refine BlkP.Blk.newA' (by first | omega | (simp; done) | (simp; omega)) rfl) | (with_reducible refine BlkP.Blk.alloc ?_ _) | (exact rfl))), hR.below (by (repeat' (first | (with_reducible exact Below.refl _ _) | (with_reducible refine Below.setCell ?_ (by (first | omega | (simp; done) | (simp; omega))) _) | (with_reducible refine Below.alloc ?_ (by (first | omega | (simp; done) | (simp; omega))) _) | (with_reducible refine Below.drew ?_) | (with_reducible refine below_drewN ?_ _)))), hQ.below (by (repeat' (first | (with_reducible exact Below.refl _ _) | (with_reducible refine Below.setCell ?_ (by (first | omega | (simp; done) | (simp; omega))) _) | (with_reducible refine Below.alloc ?_ (by (first | omega | (simp; done) | (simp; omega))) _) | (with_reducible refine Below.drew ?_) | (with_reducible refine below_drewN ?_ _))))⟩ ?_
          clear hHeld hR hQ
          rintro v3 ⟨hHeld, hA, hR, hQ⟩
          have hSv3 := hHeld.size
          refine wpAnyH_ready (rs := [5]) (by kernel_rfl) (by simp) ?_
          refine AllReadyH.cons (o := ⟨some 5, _, _, _, _, _⟩) rfl (fun K hK => ?_) ?_
          · go_simp
            refine hK.out _ _ (hHeld.alloc hHeld.size _) (fun hHeld => ?_)
            clear hK K
            have lA := hA.lt
            refine any_named (fun W => Below W0.heap.size W0 W ∧ Blk W v2.heap.size TD [.slice none 0 0, .int .i64 0, .int .i64 0] ∧ Blk W v3.heap.size TD [.slice none 0 0, .int .i64 0, .int .i64 0] ∧ RowG.Own encX TX W W0.heap.size (.slice AR k cR) l ∧ RowG.Own encX TX W W0.heap.size (.slice AQ k cQ) l) ⟨hHeld, by (repeat' (first | (with_reducible exact hA) | (with_reducible refine BlkP.Blk.drew ?_) | (with_reducible refine BlkP.Blk.drewN ?_ _) | (with_reducible refine BlkP.Blk.setAt (us := ?_) (by first | omega | (simp; done) | (simp; omega)) rfl ?_ ?_) | (with_reducible refine BlkP.Blk.otherAt ?_ (by first | omega | (simp; done) | (simp; omega))) | (with_reducible refine BlkP.Blk.newA' (by first | omega | (simp; done) | (simp; omega)) rfl) | (with_reducible refine BlkP.Blk.alloc ?_ _) | (exact rfl))), by (repeat' (first | (with_reducible refine BlkP.Blk.drew ?_) | (with_reducible refine BlkP.Blk.drewN ?_ _) | (with_reducible refine BlkP.Blk.setAt (us := ?_) (by first | omega | (simp; done) | (simp; omega)) rfl ?_ ?_) | (with_reducible refine BlkP.Blk.otherAt ?_ (by first | omega | (simp; done) | (simp; omega))) | (with_reducible refine BlkP.Blk.newA' (by first | omega | (simp; done) | (simp; omega)) rfl) | (with_reducible refine BlkP.Blk.alloc ?_ _) | (exact rfl))), hR.below (by (repeat' (first | (with_reducible exact Below.refl _ _) | (with_reducible refine Below.setCell ?_ (by (first | omega | (simp; done) | (simp; omega))) _) | (with_reducible refine Below.alloc ?_ (by (first | omega | (simp; done) | (simp; omega))) _) | (with_reducible refine Below.drew ?_) | (with_reducible refine below_drewN ?_ _)))), hQ.below (by (repeat' (first | (with_reducible exact Below.refl _ _) | (with_reducible refine Below.setCell ?_ (by (first | omega | (simp; done) | (simp; omega))) _) | (with_reducible refine Below.alloc ?_ (by (first | omega | (simp; done) | (simp; omega))) _) | (with_reducible refine Below.drew ?_) | (with_reducible refine below_drewN ?_ _))))⟩ ?_
            clear hHeld hA hR hQ
            rintro v4 ⟨hHeld, hA, hN, hR, hQ⟩
            have hSv4 := hHeld.size
            refine wpAnyH_ready (rs := [6]) (by kernel_rfl) (by simp) ?_
            refine AllReadyH.cons (o := ⟨none, _, _, _, _, _⟩) rfl (fun K hK => ?_) ?_
            · have e0 := hA.cell (i := 0) (v := .slice none 0 0) rfl
              have f0 := hA.frozen 0
              have e1 := hA.cell (i := 1) (v := .int .i64 0) rfl
              have f1 := hA.frozen 1
              have e2 := hA.cell (i := 2) (v := .int .i64 0) rfl
              have f2 := hA.frozen 2
              have lA := hA.lt
              have lN := hN.lt
              go_simp
              refine hK.out _ _ (by (repeat' (first | (with_reducible exact Below.refl _ _) | (with_reducible refine Below.setCell ?_ (by (first | omega | (simp; done) | (simp; omega))) _) | (with_reducible refine Below.alloc ?_ (by (first | omega | (simp; done) | (simp; omega))) _) | (with_reducible refine Below.drew ?_) | (with_reducible refine below_drewN ?_ _) | (with_reducible refine Below.trans ?_ (Below.mono hHeld (by (first | omega | (simp; done) | (simp; omega)))))))) (fun hHeld => ?_)
              clear hK K
              clear e0 e1 e2 f0 f1 f2
              refine any_named (fun W => Below W0.heap.size W0 W ∧ Blk W v2.heap.size TD [.slice AR k cR, .int .i64 0, .int .i64 0] ∧ Blk W v3.heap.size TD [.slice none 0 0, .int .i64 0, .int .i64 0] ∧ RowG.Own encX TX W W0.heap.size (.slice AR k cR) l ∧ RowG.Own encX TX W W0.heap.size (.slice AQ k cQ) l) ⟨hHeld, by (repeat' (first | (with_reducible exact hA) | (with_reducible refine BlkP.Blk.drew ?_) | (with_reducible refine BlkP.Blk.drewN ?_ _) | (with_reducible refine BlkP.Blk.setAt (us := ?_) (by first | omega | (simp; done) | (simp; omega)) rfl ?_ ?_) | (with_reducible refine BlkP.Blk.otherAt ?_ (by first | omega | (simp; done) | (simp; omega))) | (with_reducible refine BlkP.Blk.newA' (by first | omega | (simp; done) | (simp; omega)) rfl) | (with_reducible refine BlkP.Blk.alloc ?_ _) | (exact rfl))), by (repeat' (first | (with_reducible exact hN) | (with_reducible refine BlkP.Blk.drew ?_) | (with_reducible refine BlkP.Blk.drewN ?_ _) | (with_reducible refine BlkP.Blk.setAt (us := ?_) (by first | omega | (simp; done) | (simp; omega)) rfl ?_ ?_) | (with_reducible refine BlkP.Blk.otherAt ?_ (by first | omega | (simp; done) | (simp; omega))) | (with_reducible refine BlkP.Blk.newA' (by first | omega | (simp; done) | (simp; omega)) rfl) | (with_reducible refine BlkP.Blk.alloc ?_ _) | (exact rfl))), by first | exact own_set3 hR hA | exact own_set3 hR.drew hA.drew, by first | exact own_set3 hQ hA | exact own_set3 hQ.drew hA.drew⟩ ?_
              clear hHeld hA hN hR hQ
              rintro v5 ⟨hHeld, hA, hN, hR, hQ⟩
              have hSv5 := hHeld.size
              refine wpAnyH_ready (rs := [7]) (by kernel_rfl) (by simp) ?_
              refine AllReadyH.cons (o := ⟨none, _, _, _, _, _⟩) rfl (fun K hK => ?_) ?_
              · have e0 := hN.cell (i := 0) (v := .slice none 0 0) rfl
                have f0 := hN.frozen 0
                have e1 := hN.cell (i := 1) (v := .int .i64 0) rfl
                have f1 := hN.frozen 1
                have e2 := hN.cell (i := 2) (v := .int .i64 0) rfl
                have f2 := hN.frozen 2
                have lA := hA.lt
                have lN := hN.lt
                go_simp
                refine hK.out _ _ (by (repeat' (first | (with_reducible exact Below.refl _ _) | (with_reducible refine Below.setCell ?_ (by (first | omega | (simp; done) | (simp; omega))) _) | (with_reducible refine Below.alloc ?_ (by (first | omega | (simp; done) | (simp; omega))) _) | (with_reducible refine Below.drew ?_) | (with_reducible refine below_drewN ?_ _) | (with_reducible refine Below.trans ?_ (Below.mono hHeld (by (first | omega | (simp; done) | (simp; omega)))))))) (fun hHeld => ?_)
                clear hK K
                clear e0 e1 e2 f0 f1 f2
                refine any_named (fun W => Below W0.heap.size W0 W ∧ Blk W v2.heap.size TD [.slice AR k cR, .int .i64 0, .int .i64 0] ∧ Blk W v3.heap.size TD [.slice AQ k cQ, .int .i64 0, .int .i64 0] ∧ RowG.Own encX TX W W0.heap.size (.slice AR k cR) l ∧ RowG.Own encX TX W W0.heap.size (.slice AQ k cQ) l) ⟨hHeld, by (repeat' (first | (with_reducible exact hA) | (with_reducible refine BlkP.Blk.drew ?_) | (with_reducible refine BlkP.Blk.drewN ?_ _) | (with_reducible refine BlkP.Blk.setAt (us := ?_) (by first | omega | (simp; done) | (simp; omega)) rfl ?_ ?_) | (with_reducible refine BlkP.Blk.otherAt ?_ (by first | omega | (simp; done) | (simp; omega))) | (with_reducible refine BlkP.Blk.newA' (by first | omega | (simp; done) | (simp; omega)) rfl) | (with_reducible refine BlkP.Blk.alloc ?_ _) | (exact rfl))), by (repeat' (first | (with_reducible exact hN) | (with_reducible refine BlkP.Blk.drew ?_) | (with_reducible refine BlkP.Blk.drewN ?_ _) | (with_reducible refine BlkP.Blk.setAt (us := ?_) (by first | omega | (simp; done) | (simp; omega)) rfl ?_ ?_) | (with_reducible refine BlkP.Blk.otherAt ?_ (by first | omega | (simp; done) | (simp; omega))) | (with_reducible refine BlkP.Blk.newA' (by first | omega | (simp; done) | (simp; omega)) rfl) | (with_reducible refine BlkP.Blk.alloc ?_ _) | (exact rfl))), by first | exact own_set3 hR hN | exact own_set3 hR.drew hN.drew, by first | exact own_set3 hQ hN | exact own_set3 hQ.drew hN.drew⟩ ?_
                clear hHeld hA hN hR hQ
                rintro v6 ⟨hHeld, hA, hN, hR, hQ⟩
                have hSv6 := hHeld.size
                refine wpAnyH_done (by kernel_rfl) ?_ _
                refine NoPanic.normal ?_
                go_wp2_with fail
                go_meet
                case rel =>
                  exact ⟨v2.heap.size, v3.heap.size, AR, cR, AQ, cQ, rfl, rfl, by omega, by omega, by omega, hA, hN, hR, hQ, hDIF, hHeld⟩
              exact AllReadyH.nil
            exact AllReadyH.nil
          exact AllReadyH.nil
        refine AllReadyH.cons (o := ⟨some 5, _, _, _, _, _⟩) rfl (fun K hK => ?_) ?_
        · go_simp
          refine hK.out _ _ (hHeld.alloc hHeld.size _) (fun hHeld => ?_)
          clear hK K
          refine any_named (fun W => Below W0.heap.size W0 W ∧ Blk W v2.heap.size TD [.slice none 0 0, .int .i64 0, .int .i64 0] ∧ RowG.Own encX TX W W0.heap.size (.slice AR k cR) l ∧ RowG.Own encX TX W W0.heap.size (.slice AQ k cQ) l) ⟨hHeld, by (repeat' (first | (with_reducible refine BlkP.Blk.drew ?_) | (with_reducible refine BlkP.Blk.drewN ?_ _) | (with_reducible refine BlkP.Blk.setAt (us := ?_) (by first | omega | (simp; done) | (simp; omega)) rfl ?_ ?_) | (with_reducible refine BlkP.Blk.otherAt ?_ (by first | omega | (simp; done) | (simp; omega))) | (with_reducible refine BlkP.Blk.newA' (by first | omega | (simp; done) | (simp; omega)) rfl) | (with_reducible refine BlkP.Blk.alloc ?_ _) | (exact rfl))), hR.below (by (repeat' (first | (with_reducible exact Below.refl _ _) | (with_reducible refine Below.setCell ?_ (by (first | omega | (simp; done) | (simp; omega))) _) | (with_reducible refine Below.alloc ?_ (by (first | omega | (simp; done) | (simp; omega))) _) | (with_reducible refine Below.drew ?_) | (with_reducible refine below_drewN ?_ _)))), hQ.below (by (repeat' (first | (with_reducible exact Below.refl _ _) | (with_reducible refine Below.setCell ?_ (by (first | omega | (simp; done) | (simp; omega))) _) | (with_reducible refine Below.alloc ?_ (by (first | omega | (simp; done) | (simp; omega))) _) | (with_reducible refine Below.drew ?_) | (with_reducible refine below_drewN ?_ _))))⟩ ?_
          clear hHeld hR hQ
          rintro v3 ⟨hHeld, hN, hR, hQ⟩
          have hSv3 := hHeld.size
          refine wpAnyH_ready (rs := [4]) (by kernel_rfl) (by simp) ?_
          refine AllReadyH.cons (o := ⟨some 4, _, _, _, _, _⟩) rfl (fun K hK => ?_) ?_
          · go_simp
            refine hK.out _ _ (hHeld.alloc hHeld.size _) (fun hHeld => ?_)
            clear hK K
            have lN := hN.lt
            refine any_named (fun W => Below W0.heap.size W0 W ∧ Blk W v3.heap.size TD [.slice none 0 0, .int .i64 0, .int .i64 0] ∧ Blk W v2.heap.size TD [.slice none 0 0, .int .i64 0, .int .i64 0] ∧ RowG.Own encX TX W W0.heap.size (.slice AR k cR) l ∧ RowG.Own encX TX W W0.heap.size (.slice AQ k cQ) l) ⟨hHeld, by (repeat' (first | (with_reducible refine BlkP.Blk.drew ?_) | (with_reducible refine BlkP.Blk.drewN ?_ _) | (with_reducible refine BlkP.Blk.setAt (us := ?_) (by first | omega | (simp; done) | (simp; omega)) rfl ?_ ?_) | (with_reducible refine BlkP.Blk.otherAt ?_ (by first | omega | (simp; done) | (simp; omega))) | (with_reducible refine BlkP.Blk.newA' (by first | omega | (simp; done) | (simp; omega)) rfl) | (with_reducible refine BlkP.Blk.alloc ?_ _) | (exact rfl))), by (repeat' (first | (with_reducible exact hN) | (with_reducible refine BlkP.Blk.drew ?_) | (with_reducible refine BlkP.Blk.drewN ?_ _) | (with_reducible refine BlkP.Blk.setAt (us := ?_) (by first | omega | (simp; done) | (simp; omega)) rfl ?_ ?_) | (with_reducible refine BlkP.Blk.otherAt ?_ (by first | omega | (simp; done) | (simp; omega))) | (with_reducible refine BlkP.Blk.newA' (by first | omega | (simp; done) | (simp; omega)) rfl) | (with_reducible refine BlkP.Blk.alloc ?_ _) | (exact rfl))), hR.below (by (repeat' (first | (with_reducible exact Below.refl _ _) | (with_reducible refine Below.setCell ?_ (by (first | omega | (simp; done) | (simp; omega))) _) | (with_reducible refine Below.alloc ?_ (by (first | omega | (simp; done) | (simp; omega))) _) | (with_reducible refine Below.drew ?_) | (with_reducible refine below_drewN ?_ _)))), hQ.below (by (repeat' (first | (with_reducible exact Below.refl _ _) | (with_reducible refine Below.setCell ?_ (by (first | omega | (simp; done) | (simp; omega))) _) | (with_reducible refine Below.alloc ?_ (by (first | omega | (simp; done) | (simp; omega))) _) | (with_reducible refine Below.drew ?_) | (with_reducible refine below_drewN ?_ _))))⟩ ?_
            clear hHeld hN hR hQ
            rintro v4 ⟨hHeld, hA, hN, hR, hQ⟩
            have hSv4 := hHeld.size
            refine wpAnyH_ready (rs := [6]) (by kernel_rfl) (by simp) ?_
            refine AllReadyH.cons (o := ⟨none, _, _, _, _, _⟩) rfl (fun K hK => ?_) ?_
            · have e0 := hA.cell (i := 0) (v := .slice none 0 0) rfl
              have f0 := hA.frozen 0
              have e1 := hA.cell (i := 1) (v := .int .i64 0) rfl
              have f1 := hA.frozen 1
              have e2 := hA.cell (i := 2) (v := .int .i64 0) rfl
              have f2 := hA.frozen 2
              have lA := hA.lt
              have lN := hN.lt
              go_simp
              refine hK.out _ _ (by (repeat' (first | (with_reducible exact Below.refl _ _) | (with_reducible refine Below.setCell ?_ (by (first | omega | (simp; done) | (simp; omega))) _) | (with_reducible refine Below.alloc ?_ (by (first | omega | (simp; done) | (simp; omega))) _) | (with_reducible refine Below.drew ?_) | (with_reducible refine below_drewN ?_ _) | (with_reducible refine Below.trans ?_ (Below.mono hHeld (by (first | omega | (simp; done) | (simp; omega)))))))) (fun hHeld => ?_)
              clear hK K
              clear e0 e1 e2 f0 f1 f2
              refine any_named (fun W => Below W0.heap.size W0 W ∧ Blk W v3.heap.size TD [.slice AR k cR, .int .i64 0, .int .i64 0] ∧ Blk W v2.heap.size TD [.slice none 0 0, .int .i64 0, .int .i64 0] ∧ RowG.Own encX TX W W0.heap.size (.slice AR k cR) l ∧ RowG.Own encX TX W W0.heap.size (.slice AQ k cQ) l) ⟨hHeld, by (repeat' (first | (with_reducible exact hA) | (with_reducible refine BlkP.Blk.drew ?_) | (with_reducible refine BlkP.Blk.drewN ?_ _) | (with_reducible refine BlkP.Blk.setAt (us := ?_) (by first | omega | (simp; done) | (simp; omega)) rfl ?_ ?_) | (with_reducible refine BlkP.Blk.otherAt ?_ (by first | omega | (simp; done) | (simp; omega))) | (with_reducible refine BlkP.Blk.newA' (by first | omega | (simp; done) | (simp; omega)) rfl) | (with_reducible refine BlkP.Blk.alloc ?_ _) | (exact rfl))), by (repeat' (first | (with_reducible exact hN) | (with_reducible refine BlkP.Blk.drew ?_) | (with_reducible refine BlkP.Blk.drewN ?_ _) | (with_reducible refine BlkP.Blk.setAt (us := ?_) (by first | omega | (simp; done) | (simp; omega)) rfl ?_ ?_) | (with_reducible refine BlkP.Blk.otherAt ?_ (by first | omega | (simp; done) | (simp; omega))) | (with_reducible refine BlkP.Blk.newA' (by first | omega | (simp; done) | (simp; omega)) rfl) | (with_reducible refine BlkP.Blk.alloc ?_ _) | (exact rfl))), by first | exact own_set3 hR hA | exact own_set3 hR.drew hA.drew, by first | exact own_set3 hQ hA | exact own_set3 hQ.drew hA.drew⟩ ?_
              clear hHeld hA hN hR hQ
              rintro v5 ⟨hHeld, hA, hN, hR, hQ⟩
              have hSv5 := hHeld.size
              refine wpAnyH_ready (rs := [7]) (by kernel_rfl) (by simp) ?_
              refine AllReadyH.cons (o := ⟨none, _, _, _, _, _⟩) rfl (fun K hK => ?_) ?_
              · have e0 := hN.cell (i := 0) (v := .slice none 0 0) rfl
                have f0 := hN.frozen 0
                have e1 := hN.cell (i := 1) (v := .int .i64 0) rfl
                have f1 := hN.frozen 1
                have e2 := hN.cell (i := 2) (v := .int .i64 0) rfl
                have f2 := hN.frozen 2
                have lA := hA.lt
                have lN := hN.lt
                go_simp
                refine hK.out _ _ (by (repeat' (first | (with_reducible exact Below.refl _ _) | (with_reducible refine Below.setCell ?_ (by (first | omega | (simp; done) | (simp; omega))) _) | (with_reducible refine Below.alloc ?_ (by (first | omega | (simp; done) | (simp; omega))) _) | (with_reducible refine Below.drew ?_) | (with_reducible refine below_drewN ?_ _) | (with_reducible refine Below.trans ?_ (Below.mono hHeld (by (first | omega | (simp; done) | (simp; omega)))))))) (fun hHeld => ?_)
                clear hK K
                clear e0 e1 e2 f0 f1 f2
                refine any_named (fun W => Below W0.heap.size W0 W ∧ Blk W v3.heap.size TD [.slice AR k cR, .int .i64 0, .int .i64 0] ∧ Blk W v2.heap.size TD [.slice AQ k cQ, .int .i64 0, .int .i64 0] ∧ RowG.Own encX TX W W0.heap.size (.slice AR k cR) l ∧ RowG.Own encX TX W W0.heap.size (.slice AQ k cQ) l) ⟨hHeld, by (repeat' (first | (with_reducible exact hA) | (with_reducible refine BlkP.Blk.drew ?_) | (with_reducible refine BlkP.Blk.drewN ?_ _) | (with_reducible refine BlkP.Blk.setAt (us := ?_) (by first | omega | (simp; done) | (simp; omega)) rfl ?_ ?_) | (with_reducible refine BlkP.Blk.otherAt ?_ (by first | omega | (simp; done) | (simp; omega))) | (with_reducible refine BlkP.Blk.newA' (by first | omega | (simp; done) | (simp; omega)) rfl) | (with_reducible refine BlkP.Blk.alloc ?_ _) | (exact rfl))), by (repeat' (first | (with_reducible exact hN) | (with_reducible refine BlkP.Blk.drew ?_) | (with_reducible refine BlkP.Blk.drewN ?_ _) | (with_reducible refine BlkP.Blk.setAt (us := ?_) (by first | omega | (simp; done) | (simp; omega)) rfl ?_ ?_) | (with_reducible refine BlkP.Blk.otherAt ?_ (by first | omega | (simp; done) | (simp; omega))) | (with_reducible refine BlkP.Blk.newA' (by first | omega | (simp; done) | (simp; omega)) rfl) | (with_reducible refine BlkP.Blk.alloc ?_ _) | (exact rfl))), by first | exact own_set3 hR hN | exact own_set3 hR.drew hN.drew, by first | exact own_set3 hQ hN | exact own_set3 hQ.drew hN.drew⟩ ?_
                clear hHeld hA hN hR hQ
                rintro v6 ⟨hHeld, hA, hN, hR, hQ⟩
                have hSv6 := hHeld.size
                refine wpAnyH_done (by kernel_rfl) ?_ _
                refine NoPanic.normal ?_
                go_wp2_with fail
                go_meet
                case rel =>
                  exact ⟨v3.heap.size, v2.heap.size, AR, cR, AQ, cQ, rfl, rfl, by omega, by omega, by omega, hA, hN, hR, hQ, hDIF, hHeld⟩
              exact AllReadyH.nil
            exact AllReadyH.nil
          exact AllReadyH.nil
        exact AllReadyH.nil
      refine AllReadyH.cons (o := ⟨some 4, _, _, _, _, _⟩) rfl (fun K hK => ?_) ?_
      · go_simp
        refine hK.out _ _ (hHeld.alloc hHeld.size _) (fun hHeld => ?_)
        clear hK K
        refine any_named (fun W => Below W0.heap.size W0 W ∧ Blk W v1.heap.size TD [.slice none 0 0, .int .i64 0, .int .i64 0] ∧ RowG.Own encX TX W W0.heap.size (.slice AR k cR) l) ⟨hHeld, by (repeat' (first | (with_reducible refine BlkP.Blk.drew ?_) | (with_reducible refine BlkP.Blk.drewN ?_ _) | (with_reducible refine BlkP.Blk.setAt (us := ?_) (by first | omega | (simp; done) | (simp; omega)) rfl ?_ ?_) | (with_reducible refine BlkP.Blk.otherAt ?_ (by first | omega | (simp; done) | (simp; omega))) | (with_reducible refine BlkP.Blk.newA' (by first | omega | (simp; done) | (simp; omega)) rfl) | (with_reducible refine BlkP.Blk.alloc ?_ _) | (exact rfl))), hR.below (by (repeat' (first | (with_reducible exact Below.refl _ _) | (with_reducible refine Below.setCell ?_ (by (first | omega | (simp; done) | (simp; omega))) _) | (with_reducible refine Below.alloc ?_ (by (first | omega | (simp; done) | (simp; omega))) _) | (with_reducible refine Below.drew ?_) | (with_reducible refine below_drewN ?_ _))))⟩ ?_
        clear hHeld hR
        rintro v2 ⟨hHeld, hA, hR⟩
        have hSv2 := hHeld.size
        refine wpAnyH_ready (rs := [3, 5]) (by kernel_rfl) (by simp) ?_
        refine AllReadyH.cons (o := ⟨some 12, _, _, _, _, _⟩) rfl (fun K hK => ?_) ?_
        · have hHeld0 := hHeld.size
          go_simp
          refine (Next_c (n := n) (HT.out.below (below_t HB0.out hHeld))).mono ?_
          rintro e wf ⟨vf, rfl, hof, hbf⟩
          rw [HL.out] at hof
          obtain ⟨AQ, cQ, rfl, _, _, _⟩ := hof.form HK.out
          have hDIF : ∀ g, (Value.slice AR k cR).ownBlock = some g → (Value.slice AQ k cQ).ownBlock ≠ some g := fun g h1 h2 => absurd (Nat.lt_of_lt_of_le (hR.ge g h1).2 (hof.ge g h2).1) (Nat.lt_irrefl _)
          go_wp2_with fail
          refine hK.out _ _ (below_t hHeld hbf) (fun hHeld => ?_)
          clear hK K
          refine any_named (fun W => Below W0.heap.size W0 W ∧ Blk W v1.heap.size TD [.slice none 0 0, .int .i64 0, .int .i64 0] ∧ RowG.Own encX TX W W0.heap.size (.slice AR k cR) l ∧ RowG.Own encX TX W W0.heap.size (.slice AQ k cQ) l) ⟨hHeld, hA.below hbf, hR.below hbf, hof.mono (show W0.heap.size ≤ _ from hHeld0)⟩ ?_
          clear hHeld hA hR
          rintro v3 ⟨hHeld, hA, hR, hQ⟩
          have hSv3 := hHeld.size
          clear hof hbf
          refine wpAnyH_ready (rs := [5]) (by kernel_rfl) (by simp) ?_
          refine AllReadyH.cons (o := ⟨some 5, _, _, _, _, _⟩) rfl (fun K hK => ?_) ?_
          · go_simp
            refine hK.out _ _ (hHeld.alloc hHeld.size _) (fun hHeld => ?_)
            clear hK K
            have lA := hA.lt
            refine any_named (fun W => Below W0.heap.size W0 W ∧ Blk W v1.heap.size TD [.slice none 0 0, .int .i64 0, .int .i64 0] ∧ Blk W v3.heap.size TD [.slice none 0 0, .int .i64 0, .int .i64 0] ∧ RowG.Own encX TX W W0.heap.size (.slice AR k cR) l ∧ RowG.Own encX TX W W0.heap.size (.slice AQ k cQ) l) ⟨hHeld, by (repeat' (first | (with_reducible exact hA) | (with_reducible refine BlkP.Blk.drew ?_) | (with_reducible refine BlkP.Blk.drewN ?_ _) | (with_reducible refine BlkP.Blk.setAt (us := ?_) (by first | omega | (simp; done) | (simp; omega)) rfl ?_ ?_) | (with_reducible refine BlkP.Blk.otherAt ?_ (by first | omega | (simp; done) | (simp; omega))) | (with_reducible refine BlkP.Blk.newA' (by first | omega | (simp; done) | (simp; omega)) rfl) | (with_reducible refine BlkP.Blk.alloc ?_ _) | (exact rfl))), by (repeat' (first | (with_reducible refine BlkP.Blk.drew ?_) | (with_reducible refine BlkP.Blk.drewN ?_ _) | (with_reducible refine BlkP.Blk.setAt (us := ?_) (by first | omega | (simp; done) | (simp; omega)) rfl ?_ ?_) | (with_reducible refine BlkP.Blk.otherAt ?_ (by first | omega | (simp; done) | (simp; omega))) | (with_reducible refine BlkP.Blk.newA' (by first | omega | (simp; done) | (simp; omega)) rfl) | (with_reducible refine BlkP.Blk.alloc ?_ _) | (exact rfl))), hR.below (by (repeat' (first | (with_reducible exact Below.refl _ _) | (with_reducible refine Below.setCell ?_ (by (first | omega | (simp; done) | (simp; omega))) _) | (with_reducible refine Below.alloc ?_ (by (first | omega | (simp; done) | (simp; omega))) _) | (with_reducible refine Below.drew ?_) | (with_reducible refine below_drewN ?_ _)))), hQ.below (by (repeat' (first | (with_reducible exact Below.refl _ _) | (with_reducible refine Below.setCell ?_ (by (first | omega | (simp; done) | (simp; omega))) _) | (with_reducible refine Below.alloc ?_ (by (first | omega | (simp; done) | (simp; omega))) _) | (with_reducible refine Below.drew ?_) | (with_reducible refine below_drewN ?_ _))))⟩ ?_
            clear hHeld hA hR hQ
            rintro v4 ⟨hHeld, hA, hN, hR, hQ⟩
            have hSv4 := hHeld.size
            refine wpAnyH_ready (rs := [6]) (by kernel_rfl) (by simp) ?_
            refine AllReadyH.cons (o := ⟨none, _, _, _, _, _⟩) rfl (fun K hK => ?_) ?_
            · have e0 := hA.cell (i := 0) (v := .slice none 0 0) rfl
              have f0 := hA.frozen 0
              have e1 := hA.cell (i := 1) (v := .int .i64 0) rfl
              have f1 := hA.frozen 1
              have e2 := hA.cell (i := 2) (v := .int .i64 0) rfl
              have f2 := hA.frozen 2
              have lA := hA.lt
              have lN := hN.lt
              go_simp
              refine hK.out _ _ (by (repeat' (first | (with_reducible exact Below.refl _ _) | (with_reducible refine Below.setCell ?_ (by (first | omega | (simp; done) | (simp; omega))) _) | (with_reducible refine Below.alloc ?_ (by (first | omega | (simp; done) | (simp; omega))) _) | (with_reducible refine Below.drew ?_) | (with_reducible refine below_drewN ?_ _) | (with_reducible refine Below.trans ?_ (Below.mono hHeld (by (first | omega | (simp; done) | (simp; omega)))))))) (fun hHeld => ?_)
              clear hK K
              clear e0 e1 e2 f0 f1 f2
              refine any_named (fun W => Below W0.heap.size W0 W ∧ Blk W v1.heap.size TD [.slice AR k cR, .int .i64 0, .int .i64 0] ∧ Blk W v3.heap.size TD [.slice none 0 0, .int .i64 0, .int .i64 0] ∧ RowG.Own encX TX W W0.heap.size (.slice AR k cR) l ∧ RowG.Own encX TX W W0.heap.size (.slice AQ k cQ) l) ⟨hHeld, by (repeat' (first | (with_reducible exact hA) | (with_reducible refine BlkP.Blk.drew ?_) | (with_reducible refine BlkP.Blk.drewN ?_ _) | (with_reducible refine BlkP.Blk.setAt (us := ?_) (by first | omega | (simp; done) | (simp; omega)) rfl ?_ ?_) | (with_reducible refine BlkP.Blk.otherAt ?_ (by first | omega | (simp; done) | (simp; omega))) | (with_reducible refine BlkP.Blk.newA' (by first | omega | (simp; done) | (simp; omega)) rfl) | (with_reducible refine BlkP.Blk.alloc ?_ _) | (exact rfl))), by (repeat' (first | (with_reducible exact hN) | (with_reducible refine BlkP.Blk.drew ?_) | (with_reducible refine BlkP.Blk.drewN ?_ _) | (with_reducible refine BlkP.Blk.setAt (us := ?_) (by first | omega | (simp; done) | (simp; omega)) rfl ?_ ?_) | (with_reducible refine BlkP.Blk.otherAt ?_ (by first | omega | (simp; done) | (simp; omega))) | (with_reducible refine BlkP.Blk.newA' (by first | omega | (simp; done) | (simp; omega)) rfl) | (with_reducible refine BlkP.Blk.alloc ?_ _) | (exact rfl))), by first | exact own_set3 hR hA | exact own_set3 hR.drew hA.drew, by first | exact own_set3 hQ hA | exact own_set3 hQ.drew hA.drew⟩ ?_
              clear hHeld hA hN hR hQ
              rintro v5 ⟨hHeld, hA, hN, hR, hQ⟩
              have hSv5 := hHeld.size
              refine wpAnyH_ready (rs := [7]) (by kernel_rfl) (by simp) ?_
              refine AllReadyH.cons (o := ⟨none, _, _, _, _, _⟩) rfl (fun K hK => ?_) ?_
              · have e0 := hN.cell (i := 0) (v := .slice none 0 0) rfl
                have f0 := hN.frozen 0
                have e1 := hN.cell (i := 1) (v := .int .i64 0) rfl
                have f1 := hN.frozen 1
                have e2 := hN.cell (i := 2) (v := .int .i64 0) rfl
                have f2 := hN.frozen 2
                have lA := hA.lt
                have lN := hN.lt
                go_simp
                refine hK.out _ _ (by (repeat' (first | (with_reducible exact Below.refl _ _) | (with_reducible refine Below.setCell ?_ (by (first | omega | (simp; done) | (simp; omega))) _) | (with_reducible refine Below.alloc ?_ (by (first | omega | (simp; done) | (simp; omega))) _) | (with_reducible refine Below.drew ?_) | (with_reducible refine below_drewN ?_ _) | (with_reducible refine Below.trans ?_ (Below.mono hHeld (by (first | omega | (simp; done) | (simp; omega)))))))) (fun hHeld => ?_)
                clear hK K
                clear e0 e1 e2 f0 f1 f2
                refine any_named (fun W => Below W0.heap.size W0 W ∧ Blk W v1.heap.size TD [.slice AR k cR, .int .i64 0, .int .i64 0] ∧ Blk W v3.heap.size TD [.slice AQ k cQ, .int .i64 0, .int .i64 0] ∧ RowG.Own encX TX W W0.heap.size (.slice AR k cR) l ∧ RowG.Own encX TX W W0.heap.size (.slice AQ k cQ) l) ⟨hHeld, by (repeat' (first | (with_reducible exact hA) | (with_reducible refine BlkP.Blk.drew ?_) | (with_reducible refine BlkP.Blk.drewN ?_ _) | (with_reducible refine BlkP.Blk.setAt (us := ?_) (by first | omega | (simp; done) | (simp; omega)) rfl ?_ ?_) | (with_reducible refine BlkP.Blk.otherAt ?_ (by first | omega | (simp; done) | (simp; omega))) | (with_reducible refine BlkP.Blk.newA' (by first | omega | (simp; done) | (simp; omega)) rfl) | (with_reducible refine BlkP.Blk.alloc ?_ _) | (exact rfl))), by (repeat' (first | (with_reducible exact hN) | (with_reducible refine BlkP.Blk.drew ?_) | (with_reducible refine BlkP.Blk.drewN ?_ _) | (with_reducible refine BlkP.Blk.setAt (us := ?_) (by first | omega | (simp; done) | (simp; omega)) rfl ?_ ?_) | (with_reducible refine BlkP.Blk.otherAt ?_ (by first | omega | (simp; done) | (simp; omega))) | (with_reducible refine BlkP.Blk.newA' (by first | omega | (simp; done) | (simp; omega)) rfl) | (with_reducible refine BlkP.Blk.alloc ?_ _) | (exact rfl))), by first | exact own_set3 hR hN | exact own_set3 hR.drew hN.drew, by first | exact own_set3 hQ hN | exact own_set3 hQ.drew hN.drew⟩ ?_
                clear hHeld hA hN hR hQ
                rintro v6 ⟨hHeld, hA, hN, hR, hQ⟩
                have hSv6 := hHeld.size
                refine wpAnyH_done (by kernel_rfl) ?_ _
                refine NoPanic.normal ?_
                go_wp2_with fail
                go_meet
                case rel =>
                  exact ⟨v1.heap.size, v3.heap.size, AR, cR, AQ, cQ, rfl, rfl, by omega, by omega, by omega, hA, hN, hR, hQ, hDIF, hHeld⟩
              exact AllReadyH.nil
            exact AllReadyH.nil
          exact AllReadyH.nil
        refine AllReadyH.cons (o := ⟨some 5, _, _, _, _, _⟩) rfl (fun K hK => ?_) ?_
        · go_simp
          refine hK.out _ _ (hHeld.alloc hHeld.size _) (fun hHeld => ?_)
          clear hK K
          have lA := hA.lt
          refine any_named (fun W => Below W0.heap.size W0 W ∧ Blk W v1.heap.size TD [.slice none 0 0, .int .i64 0, .int .i64 0] ∧ Blk W v2.heap.size TD [.slice none 0 0, .int .i64 0, .int .i64 0] ∧ RowG.Own encX TX W W0.heap.size (.slice AR k cR) l) ⟨hHeld, by (repeat' (first | (with_reducible exact hA) | (with_reducible refine BlkP.Blk.drew ?_) | (with_reducible refine BlkP.Blk.drewN ?_ _) | (with_reducible refine BlkP.Blk.setAt (us := ?_) (by first | omega | (simp; done) | (simp; omega)) rfl ?_ ?_) | (with_reducible refine BlkP.Blk.otherAt ?_ (by first | omega | (simp; done) | (simp; omega))) | (with_reducible refine BlkP.Blk.newA' (by first | omega | (simp; done) | (simp; omega)) rfl) | (with_reducible refine BlkP.Blk.alloc ?_ _) | (exact rfl))), by (repeat' (first | (with_reducible refine BlkP.Blk.drew ?_) | (with_reducible refine BlkP.Blk.drewN ?_ _) | (with_reducible refine BlkP.Blk.setAt (us := ?_) (by first | omega | (simp; done) | (simp; omega)) rfl ?_ ?_) | (with_reducible refine BlkP.Blk.otherAt ?_ (by first | omega | (simp; done) | (simp; omega))) | (with_reducible refine BlkP.Blk.newA' (by first | omega | (simp; done) | (simp; omega)) rfl) | (with_reducible refine BlkP.Blk.alloc ?_ _) | (exact rfl))), hR.below (by (repeat' (first | (with_reducible exact Below.refl _ _) | (with_reducible refine Below.setCell ?_ (by (first | omega | (simp; done) | (simp; omega))) _) | (with_reducible refine Below.alloc ?_ (by (first | omega | (simp; done) | (simp; omega))) _) | (with_reducible refine Below.drew ?_) | (with_reducible refine below_drewN ?_ _))))⟩ ?_
          clear hHeld hA hR
          rintro v3 ⟨hHeld, hA, hN, hR⟩
          have hSv3 := hHeld.size
          refine wpAnyH_ready (rs := [3]) (by kernel_rfl) (by simp) ?_
          refine AllReadyH.cons (o := ⟨some 12, _, _, _, _, _⟩) rfl (fun K hK => ?_) ?_
          · have hHeld0 := hHeld.size
            go_simp
            refine (Next_c (n := n) (HT.out.below (below_t HB0.out hHeld))).mono ?_
            rintro e wf ⟨vf, rfl, hof, hbf⟩
            rw [HL.out] at hof
            obtain ⟨AQ, cQ, rfl, _, _, _⟩ := hof.form HK.out
            have hDIF : ∀ g, (Value.slice AR k cR).ownBlock = some g → (Value.slice AQ k cQ).ownBlock ≠ some g := fun g h1 h2 => absurd (Nat.lt_of_lt_of_le (hR.ge g h1).2 (hof.ge g h2).1) (Nat.lt_irrefl _)
            go_wp2_with fail
            refine hK.out _ _ (below_t hHeld hbf) (fun hHeld => ?_)
            clear hK K
            refine any_named (fun W => Below W0.heap.size W0 W ∧ Blk W v1.heap.size TD [.slice none 0 0, .int .i64 0, .int .i64 0] ∧ Blk W v2.heap.size TD [.slice none 0 0, .int .i64 0, .int .i64 0] ∧ RowG.Own encX TX W W0.heap.size (.slice AR k cR) l ∧ RowG.Own encX TX W W0.heap.size (.slice AQ k cQ) l) ⟨hHeld, hA.below hbf, hN.below hbf, hR.below hbf, hof.mono (show W0.heap.size ≤ _ from hHeld0)⟩ ?_
            clear hHeld hA hN hR
            rintro v4 ⟨hHeld, hA, hN, hR, hQ⟩
            have hSv4 := hHeld.size
            clear hof hbf
            refine wpAnyH_ready (rs := [6]) (by kernel_rfl) (by simp) ?_
            refine AllReadyH.cons (o := ⟨none, _, _, _, _, _⟩) rfl (fun K hK => ?_) ?_
            · have e0 := hA.cell (i := 0) (v := .slice none 0 0) rfl
              have f0 := hA.frozen 0
              have e1 := hA.cell (i := 1) (v := .int .i64 0) rfl
              have f1 := hA.frozen 1
              have e2 := hA.cell (i := 2) (v := .int .i64 0) rfl
              have f2 := hA.frozen 2
              have lA := hA.lt
              have lN := hN.lt
              go_simp
              refine hK.out _ _ (by (repeat' (first | (with_reducible exact Below.refl _ _) | (with_reducible refine Below.setCell ?_ (by (first | omega | (simp; done) | (simp; omega))) _) | (with_reducible refine Below.alloc ?_ (by (first | omega | (simp; done) | (simp; omega))) _) | (with_reducible refine Below.drew ?_) | (with_reducible refine below_drewN ?_ _) | (with_reducible refine Below.trans ?_ (Below.mono hHeld (by (first | omega | (simp; done) | (simp; omega)))))))) (fun hHeld => ?_)
              clear hK K
              clear e0 e1 e2 f0 f1 f2
              refine any_named (fun W => Below W0.heap.size W0 W ∧ Blk W v1.heap.size TD [.slice AR k cR, .int .i64 0, .int .i64 0] ∧ Blk W v2.heap.size TD [.slice none 0 0, .int .i64 0, .int .i64 0] ∧ RowG.Own encX TX W W0.heap.size (.slice AR k cR) l ∧ RowG.Own encX TX W W0.heap.size (.slice AQ k cQ) l) ⟨hHeld, by (repeat' (first | (with_reducible exact hA) | (with_reducible refine BlkP.Blk.drew ?_) | (with_reducible refine BlkP.Blk.drewN ?_ _) | (with_reducible refine BlkP.Blk.setAt (us := ?_) (by first | omega | (simp; done) | (simp; omega)) rfl ?_ ?_) | (with_reducible refine BlkP.Blk.otherAt ?_ (by first | omega | (simp; done) | (simp; omega))) | (with_reducible refine BlkP.Blk.newA' (by first | omega | (simp; done) | (simp; omega)) rfl) | (with_reducible refine BlkP.Blk.alloc ?_ _) | (exact rfl))), by (repeat' (first | (with_reducible exact hN) | (with_reducible refine BlkP.Blk.drew ?_) | (with_reducible refine BlkP.Blk.drewN ?_ _) | (with_reducible refine BlkP.Blk.setAt (us := ?_) (by first | omega | (simp; done) | (simp; omega)) rfl ?_ ?_) | (with_reducible refine BlkP.Blk.otherAt ?_ (by first | omega | (simp; done) | (simp; omega))) | (with_reducible refine BlkP.Blk.newA' (by first | omega | (simp; done) | (simp; omega)) rfl) | (with_reducible refine BlkP.Blk.alloc ?_ _) | (exact rfl))), by first | exact own_set3 hR hA | exact own_set3 hR.drew hA.drew, by first | exact own_set3 hQ hA | exact own_set3 hQ.drew hA.drew⟩ ?_
              clear hHeld hA hN hR hQ
              rintro v5 ⟨hHeld, hA, hN, hR, hQ⟩
              have hSv5 := hHeld.size
              refine wpAnyH_ready (rs := [7]) (by kernel_rfl) (by simp) ?_
              refine AllReadyH.cons (o := ⟨none, _, _, _, _, _⟩) rfl (fun K hK => ?_) ?_
              · have e0 := hN.cell (i := 0) (v := .slice none 0 0) rfl
                have f0 := hN.frozen 0
                have e1 := hN.cell (i := 1) (v := .int .i64 0) rfl
                have f1 := hN.frozen 1
                have e2 := hN.cell (i := 2) (v := .int .i64 0) rfl
                have f2 := hN.frozen 2
                have lA := hA.lt
                have lN := hN.lt
                go_simp
                refine hK.out _ _ (by (repeat' (first | (with_reducible exact Below.refl _ _) | (with_reducible refine Below.setCell ?_ (by (first | omega | (simp; done) | (simp; omega))) _) | (with_reducible refine Below.alloc ?_ (by (first | omega | (simp; done) | (simp; omega))) _) | (with_reducible refine Below.drew ?_) | (with_reducible refine below_drewN ?_ _) | (with_reducible refine Below.trans ?_ (Below.mono hHeld (by (first | omega | (simp; done) | (simp; omega)))))))) (fun hHeld => ?_)
                clear hK K
                clear e0 e1 e2 f0 f1 f2
                refine any_named (fun W => Below W0.heap.size W0 W ∧ Blk W v1.heap.size TD [.slice AR k cR, .int .i64 0, .int .i64 0] ∧ Blk W v2.heap.size TD [.slice AQ k cQ, .int .i64 0, .int .i64 0] ∧ RowG.Own encX TX W W0.heap.size (.slice AR k cR) l ∧ RowG.Own encX TX W W0.heap.size (.slice AQ k cQ) l) ⟨hHeld, by (repeat' (first | (with_reducible exact hA) | (with_reducible refine BlkP.Blk.drew ?_) | (with_reducible refine BlkP.Blk.drewN ?_ _) | (with_reducible refine BlkP.Blk.setAt (us := ?_) (by first | omega | (simp; done) | (simp; omega)) rfl ?_ ?_) | (with_reducible refine BlkP.Blk.otherAt ?_ (by first | omega | (simp; done) | (simp; omega))) | (with_reducible refine BlkP.Blk.newA' (by first | omega | (simp; done) | (simp; omega)) rfl) | (with_reducible refine BlkP.Blk.alloc ?_ _) | (exact rfl))), by (repeat' (first | (with_reducible exact hN) | (with_reducible refine BlkP.Blk.drew ?_) | (with_reducible refine BlkP.Blk.drewN ?_ _) | (with_reducible refine BlkP.Blk.setAt (us := ?_) (by first | omega | (simp; done) | (simp; omega)) rfl ?_ ?_) | (with_reducible refine BlkP.Blk.otherAt ?_ (by first | omega | (simp; done) | (simp; omega))) | (with_reducible refine BlkP.Blk.newA' (by first | omega | (simp; done) | (simp; omega)) rfl) | (with_reducible refine BlkP.Blk.alloc ?_ _) | (exact rfl))), by first | exact own_set3 hR hN | exact own_set3 hR.drew hN.drew, by first | exact own_set3 hQ hN | exact own_set3 hQ.drew hN.drew⟩ ?_
                clear hHeld hA hN hR hQ
                rintro v6 ⟨hHeld, hA, hN, hR, hQ⟩
                have hSv6 := hHeld.size
                refine wpAnyH_done (by kernel_rfl) ?_ _
                refine NoPanic.normal ?_
                go_wp2_with fail
                go_meet
                case rel =>
                  exact ⟨v1.heap.size, v2.heap.size, AR, cR, AQ, cQ, rfl, rfl, by omega, by omega, by omega, hA, hN, hR, hQ, hDIF, hHeld⟩
              exact AllReadyH.nil
            exact AllReadyH.nil
          exact AllReadyH.nil
        exact AllReadyH.nil
      refine AllReadyH.cons (o := ⟨some 5, _, _, _, _, _⟩) rfl (fun K hK => ?_) ?_
      · go_simp
        refine hK.out _ _ (hHeld.alloc hHeld.size _) (fun hHeld => ?_)
        clear hK K
        refine any_named (fun W => Below W0.heap.size W0 W ∧ Blk W v1.heap.size TD [.slice none 0 0, .int .i64 0, .int .i64 0] ∧ RowG.Own encX TX W W0.heap.size (.slice AR k cR) l) ⟨hHeld, by (repeat' (first | (with_reducible refine BlkP.Blk.drew ?_) | (with_reducible refine BlkP.Blk.drewN ?_ _) | (with_reducible refine BlkP.Blk.setAt (us := ?_) (by first | omega | (simp; done) | (simp; omega)) rfl ?_ ?_) | (with_reducible refine BlkP.Blk.otherAt ?_ (by first | omega | (simp; done) | (simp; omega))) | (with_reducible refine BlkP.Blk.newA' (by first | omega | (simp; done) | (simp; omega)) rfl) | (with_reducible refine BlkP.Blk.alloc ?_ _) | (exact rfl))), hR.below (by (repeat' (first | (with_reducible exact Below.refl _ _) | (with_reducible refine Below.setCell ?_ (by (first | omega | (simp; done) | (simp; omega))) _) | (with_reducible refine Below.alloc ?_ (by (first | omega | (simp; done) | (simp; omega))) _) | (with_reducible refine Below.drew ?_) | (with_reducible refine below_drewN ?_ _))))⟩ ?_
        clear hHeld hR
        rintro v2 ⟨hHeld, hN, hR⟩
        have hSv2 := hHeld.size
        refine wpAnyH_ready (rs := [3, 4]) (by kernel_rfl) (by simp) ?_
        refine AllReadyH.cons (o := ⟨some 12, _, _, _, _, _⟩) rfl (fun K hK => ?_) ?_
        · have hHeld0 := hHeld.size
          go_simp
          refine (Next_c (n := n) (HT.out.below (below_t HB0.out hHeld))).mono ?_
          rintro e wf ⟨vf, rfl, hof, hbf⟩
          rw [HL.out] at hof
          obtain ⟨AQ, cQ, rfl, _, _, _⟩ := hof.form HK.out
          have hDIF : ∀ g, (Value.slice AR k cR).ownBlock = some g → (Value.slice AQ k cQ).ownBlock ≠ some g := fun g h1 h2 => absurd (Nat.lt_of_lt_of_le (hR.ge g h1).2 (hof.ge g h2).1) (Nat.lt_irrefl _)
          go_wp2_with fail
          refine hK.out _ _ (below_t hHeld hbf) (fun hHeld => ?_)
          clear hK K
          refine any_named (fun W => Below W0.heap.size W0 W ∧ Blk W v1.heap.size TD [.slice none 0 0, .int .i64 0, .int .i64 0] ∧ RowG.Own encX TX W W0.heap.size (.slice AR k cR) l ∧ RowG.Own encX TX W W0.heap.size (.slice AQ k cQ) l) ⟨hHeld, hN.below hbf, hR.below hbf, hof.mono (show W0.heap.size ≤ _ from hHeld0)⟩ ?_
          clear hHeld hN hR
          rintro v3 ⟨hHeld, hN, hR, hQ⟩
          have hSv3 := hHeld.size
          clear hof hbf
          refine wpAnyH_ready (rs := [4]) (by kernel_rfl) (by simp) ?_
          refine AllReadyH.cons (o := ⟨some 4, _, _, _, _, _⟩) rfl (fun K hK => ?_) ?_
          · go_simp
            refine hK.out _ _ (hHeld.alloc hHeld.size _) (fun hHeld => ?_)
            clear hK K
            have lN := hN.lt
            refine any_named (fun W => Below W0.heap.size W0 W ∧ Blk W v3.heap.size TD [.slice none 0 0, .int .i64 0, .int .i64 0] ∧ Blk W v1.heap.size TD [.slice none 0 0, .int .i64 0, .int .i64 0] ∧ RowG.Own encX TX W W0.heap.size (.slice AR k cR) l ∧ RowG.Own encX TX W W0.heap.size (.slice AQ k cQ) l) ⟨hHeld, by (repeat' (first | (with_reducible refine BlkP.Blk.drew ?_) | (with_reducible refine BlkP.Blk.drewN ?_ _) | (with_reducible refine BlkP.Blk.setAt (us := ?_) (by first | omega | (simp; done) | (simp; omega)) rfl ?_ ?_) | (with_reducible refine BlkP.Blk.otherAt ?_ (by first | omega | (simp; done) | (simp; omega))) | (with_reducible refine BlkP.Blk.newA' (by first | omega | (simp; done) | (simp; omega)) rfl) | (with_reducible refine BlkP.Blk.alloc ?_ _) | (exact rfl))), by (repeat' (first | (with_reducible exact hN) | (with_reducible refine BlkP.Blk.drew ?_) | (with_reducible refine BlkP.Blk.drewN ?_ _) | (with_reducible refine BlkP.Blk.setAt (us := ?_) (by first | omega | (simp; done) | (simp; omega)) rfl ?_ ?_) | (with_reducible refine BlkP.Blk.otherAt ?_ (by first | omega | (simp; done) | (simp; omega))) | (with_reducible refine BlkP.Blk.newA' (by first | omega | (simp; done) | (simp; omega)) rfl) | (with_reducible refine BlkP.Blk.alloc ?_ _) | (exact rfl))), hR.below (by (repeat' (first | (with_reducible exact Below.refl _ _) | (with_reducible refine Below.setCell ?_ (by (first | omega | (simp; done) | (simp; omega))) _) | (with_reducible refine Below.alloc ?_ (by (first | omega | (simp; done) | (simp; omega))) _) | (with_reducible refine Below.drew ?_) | (with_reducible refine below_drewN ?_ _)))), hQ.below (by (repeat' (first | (with_reducible exact Below.refl _ _) | (with_reducible refine Below.setCell ?_ (by (first | omega | (simp; done) | (simp; omega))) _) | (with_reducible refine Below.alloc ?_ (by (first | omega | (simp; done) | (simp; omega))) _) | (with_reducible refine Below.drew ?_) | (with_reducible refine below_drewN ?_ _))))⟩ ?_
            clear hHeld hN hR hQ
            rintro v4 ⟨hHeld, hA, hN, hR, hQ⟩
            have hSv4 := hHeld.size
            refine wpAnyH_ready (rs := [6]) (by kernel_rfl) (by simp) ?_
            refine AllReadyH.cons (o := ⟨none, _, _, _, _, _⟩) rfl (fun K hK => ?_) ?_
            · have e0 := hA.cell (i := 0) (v := .slice none 0 0) rfl
              have f0 := hA.frozen 0
              have e1 := hA.cell (i := 1) (v := .int .i64 0) rfl
              have f1 := hA.frozen 1
              have e2 := hA.cell (i := 2) (v := .int .i64 0) rfl
              have f2 := hA.frozen 2
              have lA := hA.lt
              have lN := hN.lt
              go_simp
              refine hK.out _ _ (by (repeat' (first | (with_reducible exact Below.refl _ _) | (with_reducible refine Below.setCell ?_ (by (first | omega | (simp; done) | (simp; omega))) _) | (with_reducible refine Below.alloc ?_ (by (first | omega | (simp; done) | (simp; omega))) _) | (with_reducible refine Below.drew ?_) | (with_reducible refine below_drewN ?_ _) | (with_reducible refine Below.trans ?_ (Below.mono hHeld (by (first | omega | (simp; done) | (simp; omega)))))))) (fun hHeld => ?_)
              clear hK K
              clear e0 e1 e2 f0 f1 f2
              refine any_named (fun W => Below W0.heap.size W0 W ∧ Blk W v3.heap.size TD [.slice AR k cR, .int .i64 0, .int .i64 0] ∧ Blk W v1.heap.size TD [.slice none 0 0, .int .i64 0, .int .i64 0] ∧ RowG.Own encX TX W W0.heap.size (.slice AR k cR) l ∧ RowG.Own encX TX W W0.heap.size (.slice AQ k cQ) l) ⟨hHeld, by (repeat' (first | (with_reducible exact hA) | (with_reducible refine BlkP.Blk.drew ?_) | (with_reducible refine BlkP.Blk.drewN ?_ _) | (with_reducible refine BlkP.Blk.setAt (us := ?_) (by first | omega | (simp; done) | (simp; omega)) rfl ?_ ?_) | (with_reducible refine BlkP.Blk.otherAt ?_ (by first | omega | (simp; done) | (simp; omega))) | (with_reducible refine BlkP.Blk.newA' (by first | omega | (simp; done) | (simp; omega)) rfl) | (with_reducible refine BlkP.Blk.alloc ?_ _) | (exact rfl))), by (repeat' (first | (with_reducible exact hN) | (with_reducible refine BlkP.Blk.drew ?_) | (with_reducible refine BlkP.Blk.drewN ?_ _) | (with_reducible refine BlkP.Blk.setAt (us := ?_) (by first | omega | (simp; done) | (simp; omega)) rfl ?_ ?_) | (with_reducible refine BlkP.Blk.otherAt ?_ (by first | omega | (simp; done) | (simp; omega))) | (with_reducible refine BlkP.Blk.newA' (by first | omega | (simp; done) | (simp; omega)) rfl) | (with_reducible refine BlkP.Blk.alloc ?_ _) | (exact rfl))), by first | exact own_set3 hR hA | exact own_set3 hR.drew hA.drew, by first | exact own_set3 hQ hA | exact own_set3 hQ.drew hA.drew⟩ ?_
              clear hHeld hA hN hR hQ
              rintro v5 ⟨hHeld, hA, hN, hR, hQ⟩
              have hSv5 := hHeld.size
              refine wpAnyH_ready (rs := [7]) (by kernel_rfl) (by simp) ?_
              refine AllReadyH.cons (o := ⟨none, _, _, _, _, _⟩) rfl (fun K hK => ?_) ?_
              · have e0 := hN.cell (i := 0) (v := .slice none 0 0) rfl
                have f0 := hN.frozen 0
                have e1 := hN.cell (i := 1) (v := .int .i64 0) rfl
                have f1 := hN.frozen 1
                have e2 := hN.cell (i := 2) (v := .int .i64 0) rfl
                have f2 := hN.frozen 2
                have lA := hA.lt
                have lN := hN.lt
                go_simp
                refine hK.out _ _ (by (repeat' (first | (with_reducible exact Below.refl _ _) | (with_reducible refine Below.setCell ?_ (by (first | omega | (simp; done) | (simp; omega))) _) | (with_reducible refine Below.alloc ?_ (by (first | omega | (simp; done) | (simp; omega))) _) | (with_reducible refine Below.drew ?_) | (with_reducible refine below_drewN ?_ _) | (with_reducible refine Below.trans ?_ (Below.mono hHeld (by (first | omega | (simp; done) | (simp; omega)))))))) (fun hHeld => ?_)
                clear hK K
                clear e0 e1 e2 f0 f1 f2
                refine any_named (fun W => Below W0.heap.size W0 W ∧ Blk W v3.heap.size TD [.slice AR k cR, .int .i64 0, .int .i64 0] ∧ Blk W v1.heap.size TD [.slice AQ k cQ, .int .i64 0, .int .i64 0] ∧ RowG.Own encX TX W W0.heap.size (.slice AR k cR) l ∧ RowG.Own encX TX W W0.heap.size (.slice AQ k cQ) l) ⟨hHeld, by (repeat' (first | (with_reducible exact hA) | (with_reducible refine BlkP.Blk.drew ?_) | (with_reducible refine BlkP.Blk.drewN ?_ _) | (with_reducible refine BlkP.Blk.setAt (us := ?_) (by first | omega | (simp; done) | (simp; omega)) rfl ?_ ?_) | (with_reducible refine BlkP.Blk.otherAt ?_ (by first | omega | (simp; done) | (simp; omega))) | (with_reducible refine BlkP.Blk.newA' (by first | omega | (simp; done) | (simp; omega)) rfl) | (with_reducible refine BlkP.Blk.alloc ?_ _) | (exact rfl))), by (repeat' (first | (with_reducible exact hN) | (with_reducible refine BlkP.Blk.drew ?_) | (with_reducible refine BlkP.Blk.drewN ?_ _) | (with_reducible refine BlkP.Blk.setAt (us := ?_) (by first | omega | (simp; done) | (simp; omega)) rfl ?_ ?_) | (with_reducible refine BlkP.Blk.otherAt ?_ (by first | omega | (simp; done) | (simp; omega))) | (with_reducible refine BlkP.Blk.newA' (by first | omega | (simp; done) | (simp; omega)) rfl) | (with_reducible refine BlkP.Blk.alloc ?_ _) | (exact rfl))), by first | exact own_set3 hR hN | exact own_set3 hR.drew hN.drew, by first | exact own_set3 hQ hN | exact own_set3 hQ.drew hN.drew⟩ ?_
                clear hHeld hA hN hR hQ
                rintro v6 ⟨hHeld, hA, hN, hR, hQ⟩
                have hSv6 := hHeld.size
                refine wpAnyH_done (by kernel_rfl) ?_ _
                refine NoPanic.normal ?_
                go_wp2_with fail
                go_meet
                case rel =>
                  exact ⟨v3.heap.size, v1.heap.size, AR, cR, AQ, cQ, rfl, rfl, by omega, by omega, by omega, hA, hN, hR, hQ, hDIF, hHeld⟩
              exact AllReadyH.nil
            exact AllReadyH.nil
          exact AllReadyH.nil
        refine AllReadyH.cons (o := ⟨some 4, _, _, _, _, _⟩) rfl (fun K hK => ?_) ?_
        · go_simp
          refine hK.out _ _ (hHeld.alloc hHeld.size _) (fun hHeld => ?_)
          clear hK K
          have lN := hN.lt
          refine any_named (fun W => Below W0.heap.size W0 W ∧ Blk W v2.heap.size TD [.slice none 0 0, .int .i64 0, .int .i64 0] ∧ Blk W v1.heap.size TD [.slice none 0 0, .int .i64 0, .int .i64 0] ∧ RowG.Own encX TX W W0.heap.size (.slice AR k cR) l) ⟨hHeld, by (repeat' (first | (with_reducible refine BlkP.Blk.drew ?_) | (with_reducible refine BlkP.Blk.drewN ?_ _) | (with_reducible refine BlkP.Blk.setAt (us := ?_) (by first | omega | (simp; done) | (simp; omega)) rfl ?_ ?_) | (with_reducible refine BlkP.Blk.otherAt ?_ (by first | omega | (simp; done) | (simp; omega))) | (with_reducible refine BlkP.Blk.newA' (by first | omega | (simp; done) | (simp; omega)) rfl) | (with_reducible refine BlkP.Blk.alloc ?_ _) | (exact rfl))), by (repeat' (first | (with_reducible exact hN) | (with_reducible refine BlkP.Blk.drew ?_) | (with_reducible refine BlkP.Blk.drewN ?_ _) | (with_reducible refine BlkP.Blk.setAt (us := ?_) (by first | omega | (simp; done) | (simp; omega)) rfl ?_ ?_) | (with_reducible refine BlkP.Blk.otherAt ?_ (by first | omega | (simp; done) | (simp; omega))) | (with_reducible refine BlkP.Blk.newA' (by first | omega | (simp; done) | (simp; omega)) rfl) | (with_reducible refine BlkP.Blk.alloc ?_ _) | (exact rfl))), hR.below (by (repeat' (first | (with_reducible exact Below.refl _ _) | (with_reducible refine Below.setCell ?_ (by (first | omega | (simp; done) | (simp; omega))) _) | (with_reducible refine Below.alloc ?_ (by (first | omega | (simp; done) | (simp; omega))) _) | (with_reducible refine Below.drew ?_) | (with_reducible refine below_drewN ?_ _))))⟩ ?_
          clear hHeld hN hR
          rintro v3 ⟨hHeld, hA, hN, hR⟩
          have hSv3 := hHeld.size
          refine wpAnyH_ready (rs := [3]) (by kernel_rfl) (by simp) ?_
          refine AllReadyH.cons (o := ⟨some 12, _, _, _, _, _⟩) rfl (fun K hK => ?_) ?_
          · have hHeld0 := hHeld.size
            go_simp
            refine (Next_c (n := n) (HT.out.below (below_t HB0.out hHeld))).mono ?_
            rintro e wf ⟨vf, rfl, hof, hbf⟩
            rw [HL.out] at hof
            obtain ⟨AQ, cQ, rfl, _, _, _⟩ := hof.form HK.out
            have hDIF : ∀ g, (Value.slice AR k cR).ownBlock = some g → (Value.slice AQ k cQ).ownBlock ≠ some g := fun g h1 h2 => absurd (Nat.lt_of_lt_of_le (hR.ge g h1).2 (hof.ge g h2).1) (Nat.lt_irrefl _)
            go_wp2_with fail
            refine hK.out _ _ (below_t hHeld hbf) (fun hHeld => ?_)
            clear hK K
            refine any_named (fun W => Below W0.heap.size W0 W ∧ Blk W v2.heap.size TD [.slice none 0 0, .int .i64 0, .int .i64 0] ∧ Blk W v1.heap.size TD [.slice none 0 0, .int .i64 0, .int .i64 0] ∧ RowG.Own encX TX W W0.heap.size (.slice AR k cR) l ∧ RowG.Own encX TX W W0.heap.size (.slice AQ k cQ) l) ⟨hHeld, hA.below hbf, hN.below hbf, hR.below hbf, hof.mono (show W0.heap.size ≤ _ from hHeld0)⟩ ?_
            clear hHeld hA hN hR
            rintro v4 ⟨hHeld, hA, hN, hR, hQ⟩
            have hSv4 := hHeld.size
            clear hof hbf
            refine wpAnyH_ready (rs := [6]) (by kernel_rfl) (by simp) ?_
            refine AllReadyH.cons (o := ⟨none, _, _, _, _, _⟩) rfl (fun K hK => ?_) ?_
            · have e0 := hA.cell (i := 0) (v := .slice none 0 0) rfl
              have f0 := hA.frozen 0
              have e1 := hA.cell (i := 1) (v := .int .i64 0) rfl
              have f1 := hA.frozen 1
              have e2 := hA.cell (i := 2) (v := .int .i64 0) rfl
              have f2 := hA.frozen 2
              have lA := hA.lt
              have lN := hN.lt
              go_simp
              refine hK.out _ _ (by (repeat' (first | (with_reducible exact Below.refl _ _) | (with_reducible refine Below.setCell ?_ (by (first | omega | (simp; done) | (simp; omega))) _) | (with_reducible refine Below.alloc ?_ (by (first | omega | (simp; done) | (simp; omega))) _) | (with_reducible refine Below.drew ?_) | (with_reducible refine below_drewN ?_ _) | (with_reducible refine Below.trans ?_ (Below.mono hHeld (by (first | omega | (simp; done) | (simp; omega)))))))) (fun hHeld => ?_)
              clear hK K
              clear e0 e1 e2 f0 f1 f2
              refine any_named (fun W => Below W0.heap.size W0 W ∧ Blk W v2.heap.size TD [.slice AR k cR, .int .i64 0, .int .i64 0] ∧ Blk W v1.heap.size TD [.slice none 0 0, .int .i64 0, .int .i64 0] ∧ RowG.Own encX TX W W0.heap.size (.slice AR k cR) l ∧ RowG.Own encX TX W W0.heap.size (.slice AQ k cQ) l) ⟨hHeld, by (repeat' (first | (with_reducible exact hA) | (with_reducible refine BlkP.Blk.drew ?_) | (with_reducible refine BlkP.Blk.drewN ?_ _) | (with_reducible refine BlkP.Blk.setAt (us := ?_) (by first | omega | (simp; done) | (simp; omega)) rfl ?_ ?_) | (with_reducible refine BlkP.Blk.otherAt ?_ (by first | omega | (simp; done) | (simp; omega))) | (with_reducible refine BlkP.Blk.newA' (by first | omega | (simp; done) | (simp; omega)) rfl) | (with_reducible refine BlkP.Blk.alloc ?_ _) | (exact rfl))), by (repeat' (first | (with_reducible exact hN) | (with_reducible refine BlkP.Blk.drew ?_) | (with_reducible refine BlkP.Blk.drewN ?_ _) | (with_reducible refine BlkP.Blk.setAt (us := ?_) (by first | omega | (simp; done) | (simp; omega)) rfl ?_ ?_) | (with_reducible refine BlkP.Blk.otherAt ?_ (by first | omega | (simp; done) | (simp; omega))) | (with_reducible refine BlkP.Blk.newA' (by first | omega | (simp; done) | (simp; omega)) rfl) | (with_reducible refine BlkP.Blk.alloc ?_ _) | (exact rfl))), by first | exact own_set3 hR hA | exact own_set3 hR.drew hA.drew, by first | exact own_set3 hQ hA | exact own_set3 hQ.drew hA.drew⟩ ?_
              clear hHeld hA hN hR hQ
              rintro v5 ⟨hHeld, hA, hN, hR, hQ⟩
              have hSv5 := hHeld.size
              refine wpAnyH_ready (rs := [7]) (by kernel_rfl) (by simp) ?_
              refine AllReadyH.cons (o := ⟨none, _, _, _, _, _⟩) rfl (fun K hK => ?_) ?_
              · have e0 := hN.cell (i := 0) (v := .slice none 0 0) rfl
                have f0 := hN.frozen 0
                have e1 := hN.cell (i := 1) (v := .int .i64 0) rfl
                have f1 := hN.frozen 1
                have e2 := hN.cell (i := 2) (v := .int .i64 0) rfl
                have f2 := hN.frozen 2
                have lA := hA.lt
                have lN := hN.lt
                go_simp
                refine hK.out _ _ (by (repeat' (first | (with_reducible exact Below.refl _ _) | (with_reducible refine Below.setCell ?_ (by (first | omega | (simp; done) | (simp; omega))) _) | (with_reducible refine Below.alloc ?_ (by (first | omega | (simp; done) | (simp; omega))) _) | (with_reducible refine Below.drew ?_) | (with_reducible refine below_drewN ?_ _) | (with_reducible refine Below.trans ?_ (Below.mono hHeld (by (first | omega | (simp; done) | (simp; omega)))))))) (fun hHeld => ?_)
                clear hK K
                clear e0 e1 e2 f0 f1 f2
                refine any_named (fun W => Below W0.heap.size W0 W ∧ Blk W v2.heap.size TD [.slice AR k cR, .int .i64 0, .int .i64 0] ∧ Blk W v1.heap.size TD [.slice AQ k cQ, .int .i64 0, .int .i64 0] ∧ RowG.Own encX TX W W0.heap.size (.slice AR k cR) l ∧ RowG.Own encX TX W W0.heap.size (.slice AQ k cQ) l) ⟨hHeld, by (repeat' (first | (with_reducible exact hA) | (with_reducible refine BlkP.Blk.drew ?_) | (with_reducible refine BlkP.Blk.drewN ?_ _) | (with_reducible refine BlkP.Blk.setAt (us := ?_) (by first | omega | (simp; done) | (simp; omega)) rfl ?_ ?_) | (with_reducible refine BlkP.Blk.otherAt ?_ (by first | omega | (simp; done) | (simp; omega))) | (with_reducible refine BlkP.Blk.newA' (by first | omega | (simp; done) | (simp; omega)) rfl) | (with_reducible refine BlkP.Blk.alloc ?_ _) | (exact rfl))), by (repeat' (first | (with_reducible exact hN) | (with_reducible refine BlkP.Blk.drew ?_) | (with_reducible refine BlkP.Blk.drewN ?_ _) | (with_reducible refine BlkP.Blk.setAt (us := ?_) (by first | omega | (simp; done) | (simp; omega)) rfl ?_ ?_) | (with_reducible refine BlkP.Blk.otherAt ?_ (by first | omega | (simp; done) | (simp; omega))) | (with_reducible refine BlkP.Blk.newA' (by first | omega | (simp; done) | (simp; omega)) rfl) | (with_reducible refine BlkP.Blk.alloc ?_ _) | (exact rfl))), by first | exact own_set3 hR hN | exact own_set3 hR.drew hN.drew, by first | exact own_set3 hQ hN | exact own_set3 hQ.drew hN.drew⟩ ?_
                clear hHeld hA hN hR hQ
                rintro v6 ⟨hHeld, hA, hN, hR, hQ⟩
                have hSv6 := hHeld.size
                refine wpAnyH_done (by kernel_rfl) ?_ _
                refine NoPanic.normal ?_
                go_wp2_with fail
                go_meet
                case rel =>
                  exact ⟨v2.heap.size, v1.heap.size, AR, cR, AQ, cQ, rfl, rfl, by omega, by omega, by omega, hA, hN, hR, hQ, hDIF, hHeld⟩
              exact AllReadyH.nil
            exact AllReadyH.nil
          exact AllReadyH.nil
        exact AllReadyH.nil
      exact AllReadyH.nil
    refine AllReadyH.cons (o := ⟨some 4, _, _, _, _, _⟩) rfl (fun K hK => ?_) ?_
    · go_simp
      refine hK.out _ _ (hHeld.alloc hHeld.size _) (fun hHeld => ?_)
      clear hK K
      refine any_named (fun W => Below W0.heap.size W0 W ∧ Blk W v0.heap.size TD [.slice none 0 0, .int .i64 0, .int .i64 0]) ⟨hHeld, by (repeat' (first | (with_reducible refine BlkP.Blk.drew ?_) | (with_reducible refine BlkP.Blk.drewN ?_ _) | (with_reducible refine BlkP.Blk.setAt (us := ?_) (by first | omega | (simp; done) | (simp; omega)) rfl ?_ ?_) | (with_reducible refine BlkP.Blk.otherAt ?_ (by first | omega | (simp; done) | (simp; omega))) | (with_reducible refine BlkP.Blk.newA' (by first | omega | (simp; done) | (simp; omega)) rfl) | (with_reducible refine BlkP.Blk.alloc ?_ _) | (exact rfl)))⟩ ?_
      clear hHeld
      rintro v1 ⟨hHeld, hA⟩
      have hSv1 := hHeld.size
      refine wpAnyH_ready (rs := [1, 5]) (by kernel_rfl) (by simp) ?_
      refine AllReadyH.cons (o := ⟨some 10, _, _, _, _, _⟩) rfl (fun K hK => ?_) ?_
      · have hHeld0 := hHeld.size
        go_simp
        refine (Next_c (n := n) (HT.out.below (below_t HB0.out hHeld))).mono ?_
        rintro e wf ⟨vf, rfl, hof, hbf⟩
        rw [HL.out] at hof
        obtain ⟨AR, cR, rfl, _, _, _⟩ := hof.form HK.out
        go_wp2_with fail
        refine hK.out _ _ (below_t hHeld hbf) (fun hHeld => ?_)
        clear hK K
        refine any_named (fun W => Below W0.heap.size W0 W ∧ Blk W v0.heap.size TD [.slice none 0 0, .int .i64 0, .int .i64 0] ∧ RowG.Own encX TX W W0.heap.size (.slice AR k cR) l) ⟨hHeld, hA.below hbf, hof.mono (show W0.heap.size ≤ _ from hHeld0)⟩ ?_
        clear hHeld hA
        rintro v2 ⟨hHeld, hA, hR⟩
        have hSv2 := hHeld.size
        clear hof hbf
        refine wpAnyH_ready (rs := [3, 5]) (by kernel_rfl) (by simp) ?_
        refine AllReadyH.cons (o := ⟨some 12, _, _, _, _, _⟩) rfl (fun K hK => ?_) ?_
        · have hHeld0 := hHeld.size
          go_simp
          refine (Next_c (n := n) (HT.out.below (below_t HB0.out hHeld))).mono ?_
          rintro e wf ⟨vf, rfl, hof, hbf⟩
          rw [HL.out] at hof
          obtain ⟨AQ, cQ, rfl, _, _, _⟩ := hof.form HK.out
          have hDIF : ∀ g, (Value.slice AR k cR).ownBlock = some g → (Value.slice AQ k cQ).ownBlock ≠ some g := fun g h1 h2 => absurd (Nat.lt_of_lt_of_le (hR.ge g h1).2 (hof.ge g h2).1) (Nat.lt_irrefl _)
          go_wp2_with fail
          refine hK.out _ _ (below_t hHeld hbf) (fun hHeld => ?_)
          clear hK K
          refine any_named (fun W => Below W0.heap.size W0 W ∧ Blk W v0.heap.size TD [.slice none 0 0, .int .i64 0, .int .i64 0] ∧ RowG.Own encX TX W W0.heap.size (.slice AR k cR) l ∧ RowG.Own encX TX W W0.heap.size (.slice AQ k cQ) l) ⟨hHeld, hA.below hbf, hR.below hbf, hof.mono (show W0.heap.size ≤ _ from hHeld0)⟩ ?_
          clear hHeld hA hR
          rintro v3 ⟨hHeld, hA, hR, hQ⟩
          have hSv3 := hHeld.size
          clear hof hbf
          refine wpAnyH_ready (rs := [5]) (by kernel_rfl) (by simp) ?_
          refine AllReadyH.cons (o := ⟨some 5, _, _, _, _, _⟩) rfl (fun K hK => ?_) ?_
          · go_simp
            refine hK.out _ _ (hHeld.alloc hHeld.size _) (fun hHeld => ?_)
            clear hK K
            have lA := hA.lt
            refine any_named (fun W => Below W0.heap.size W0 W ∧ Blk W v0.heap.size TD [.slice none 0 0, .int .i64 0, .int .i64 0] ∧ Blk W v3.heap.size TD [.slice none 0 0, .int .i64 0, .int .i64 0] ∧ RowG.Own encX TX W W0.heap.size (.slice AR k cR) l ∧ RowG.Own encX TX W W0.heap.size (.slice AQ k cQ) l) ⟨hHeld, by (repeat' (first | (with_reducible exact hA) | (with_reducible refine BlkP.Blk.drew ?_) | (with_reducible refine BlkP.Blk.drewN ?_ _) | (with_reducible refine BlkP.Blk.setAt (us := ?_) (by first | omega | (simp; done) | (simp; omega)) rfl ?_ ?_) | (with_reducible refine BlkP.Blk.otherAt ?_ (by first | omega | (simp; done) | (simp; omega))) | (with_reducible refine BlkP.Blk.newA' (by first | omega | (simp; done) | (simp; omega)) rfl) | (with_reducible refine BlkP.Blk.alloc ?_ _) | (exact rfl))), by (repeat' (first | (with_reducible refine BlkP.Blk.drew ?_) | (with_reducible refine BlkP.Blk.drewN ?_ _) | (with_reducible refine BlkP.Blk.setAt (us := ?_) (by first | omega | (simp; done) | (simp; omega)) rfl ?_ ?_) | (with_reducible refine BlkP.Blk.otherAt ?_ (by first | omega | (simp; done) | (simp; omega))) | (with_reducible refine BlkP.Blk.newA' (by first | omega | (simp; done) | (simp; omega)) rfl) | (with_reducible refine BlkP.Blk.alloc ?_ _) | (exact rfl))), hR.below (by (repeat' (first | (with_reducible exact Below.refl _ _) | (with_reducible refine Below.setCell ?_ (by (first | omega | (simp; done) | (simp; omega))) _) | (with_reducible refine Below.alloc ?_ (by (first | omega | (simp; done) | (simp; omega))) _) | (with_reducible refine Below.drew ?_) | (with_reducible refine below_drewN ?_ _)))), hQ.below (by (repeat' (first | (with_reducible exact Below.refl _ _) | (with_reducible refine Below.setCell ?_ (by (first | omega | (simp; done) | (simp; omega))) _) | (with_reducible refine Below.alloc ?_ (by (first | omega | (simp; done) | (simp; omega))) _) | (with_reducible refine Below.drew ?_) | (with_reducible refine below_drewN ?_ _))))⟩ ?_
            clear hHeld hA hR hQ
            rintro v4 ⟨hHeld, hA, hN, hR, hQ⟩
            have hSv4 := hHeld.size
            refine wpAnyH_ready (rs := [6]) (by kernel_rfl) (by simp) ?_
            refine AllReadyH.cons (o := ⟨none, _, _, _, _, _⟩) rfl (fun K hK => ?_) ?_
            · have e0 := hA.cell (i := 0) (v := .slice none 0 0) rfl
              have f0 := hA.frozen 0
              have e1 := hA.cell (i := 1) (v := .int .i64 0) rfl
              have f1 := hA.frozen 1
              have e2 := hA.cell (i := 2) (v := .int .i64 0) rfl
              have f2 := hA.frozen 2
              have lA := hA.lt
              have lN := hN.lt
              go_simp
              refine hK.out _ _ (by (repeat' (first | (with_reducible exact Below.refl _ _) | (with_reducible refine Below.setCell ?_ (by (first | omega | (simp; done) | (simp; omega))) _) | (with_reducible refine Below.alloc ?_ (by (first | omega | (simp; done) | (simp; omega))) _) | (with_reducible refine Below.drew ?_) | (with_reducible refine below_drewN ?_ _) | (with_reducible refine Below.trans ?_ (Below.mono hHeld (by (first | omega | (simp; done) | (simp; omega)))))))) (fun hHeld => ?_)
              clear hK K
              clear e0 e1 e2 f0 f1 f2
              refine any_named (fun W => Below W0.heap.size W0 W ∧ Blk W v0.heap.size TD [.slice AR k cR, .int .i64 0, .int .i64 0] ∧ Blk W v3.heap.size TD [.slice none 0 0, .int .i64 0, .int .i64 0] ∧ RowG.Own encX TX W W0.heap.size (.slice AR k cR) l ∧ RowG.Own encX TX W W0.heap.size (.slice AQ k cQ) l) ⟨hHeld, by (repeat' (first | (with_reducible exact hA) | (with_reducible refine BlkP.Blk.drew ?_) | (with_reducible refine BlkP.Blk.drewN ?_ _) | (with_reducible refine BlkP.Blk.setAt (us := ?_) (by first | omega | (simp; done) | (simp; omega)) rfl ?_ ?_) | (with_reducible refine BlkP.Blk.otherAt ?_ (by first | omega | (simp; done) | (simp; omega))) | (with_reducible refine BlkP.Blk.newA' (by first | omega | (simp; done) | (simp; omega)) rfl) | (with_reducible refine BlkP.Blk.alloc ?_ _) | (exact rfl))), by (repeat' (first | (with_reducible exact hN) | (with_reducible refine BlkP.Blk.drew ?_) | (with_reducible refine BlkP.Blk.drewN ?_ _) | (with_reducible refine BlkP.Blk.setAt (us := ?_) (by first | omega | (simp; done) | (simp; omega)) rfl ?_ ?_) | (with_reducible refine BlkP.Blk.otherAt ?_ (by first | omega | (simp; done) | (simp; omega))) | (with_reducible refine BlkP.Blk.newA' (by first | omega | (simp; done) | (simp; omega)) rfl) | (with_reducible refine BlkP.Blk.alloc ?_ _) | (exact rfl))), by first | exact own_set3 hR hA | exact own_set3 hR.drew hA.drew, by first | exact own_set3 hQ hA | exact own_set3 hQ.drew hA.drew⟩ ?_
              clear hHeld hA hN hR hQ
              rintro v5 ⟨hHeld, hA, hN, hR, hQ⟩
              have hSv5 := hHeld.size
              refine wpAnyH_ready (rs := [7]) (by kernel_rfl) (by simp) ?_
              refine AllReadyH.cons (o := ⟨none, _, _, _, _, _⟩) rfl (fun K hK => ?_) ?_
              · have e0 := hN.cell (i := 0) (v := .slice none 0 0) rfl
                have f0 := hN.frozen 0
                have e1 := hN.cell (i := 1) (v := .int .i64 0) rfl
                have f1 := hN.frozen 1
                have e2 := hN.cell (i := 2) (v := .int .i64 0) rfl
                have f2 := hN.frozen 2
                have lA := hA.lt
                have lN := hN.lt
                go_simp
                refine hK.out _ _ (by (repeat' (first | (with_reducible exact Below.refl _ _) | (with_reducible refine Below.setCell ?_ (by (first | omega | (simp; done) | (simp; omega))) _) | (with_reducible refine Below.alloc ?_ (by (first | omega | (simp; done) | (simp; omega))) _) | (with_reducible refine Below.drew ?_) | (with_reducible refine below_drewN ?_ _) | (with_reducible refine Below.trans ?_ (Below.mono hHeld (by (first | omega | (simp; done) | (simp; omega)))))))) (fun hHeld => ?_)
                clear hK K
                clear e0 e1 e2 f0 f1 f2
                refine any_named (fun W => Below W0.heap.size W0 W ∧ Blk W v0.heap.size TD [.slice AR k cR, .int .i64 0, .int .i64 0] ∧ Blk W v3.heap.size TD [.slice AQ k cQ, .int .i64 0, .int .i64 0] ∧ RowG.Own encX TX W W0.heap.size (.slice AR k cR) l ∧ RowG.Own encX TX W W0.heap.size (.slice AQ k cQ) l) ⟨hHeld, by (repeat' (first | (with_reducible exact hA) | (with_reducible refine BlkP.Blk.drew ?_) | (with_reducible refine BlkP.Blk.drewN ?_ _) | (with_reducible refine BlkP.Blk.setAt (us := ?_) (by first | omega | (simp; done) | (simp; omega)) rfl ?_ ?_) | (with_reducible refine BlkP.Blk.otherAt ?_ (by first | omega | (simp; done) | (simp; omega))) | (with_reducible refine BlkP.Blk.newA' (by first | omega | (simp; done) | (simp; omega)) rfl) | (with_reducible refine BlkP.Blk.alloc ?_ _) | (exact rfl))), by (repeat' (first | (with_reducible exact hN) | (with_reducible refine BlkP.Blk.drew ?_) | (with_reducible refine BlkP.Blk.drewN ?_ _) | (with_reducible refine BlkP.Blk.setAt (us := ?_) (by first | omega | (simp; done) | (simp; omega)) rfl ?_ ?_) | (with_reducible refine BlkP.Blk.otherAt ?_ (by first | omega | (simp; done) | (simp; omega))) | (with_reducible refine BlkP.Blk.newA' (by first | omega | (simp; done) | (simp; omega)) rfl) | (with_reducible refine BlkP.Blk.alloc ?_ _) | (exact rfl))), by first | exact own_set3 hR hN | exact own_set3 hR.drew hN.drew, by first | exact own_set3 hQ hN | exact own_set3 hQ.drew hN.drew⟩ ?_
                clear hHeld hA hN hR hQ
                rintro v6 ⟨hHeld, hA, hN, hR, hQ⟩
                have hSv6 := hHeld.size
                refine wpAnyH_done (by kernel_rfl) ?_ _
                refine NoPanic.normal ?_
                go_wp2_with fail
                go_meet
                case rel =>
                  exact ⟨v0.heap.size, v3.heap.size, AR, cR, AQ, cQ, rfl, rfl, by omega, by omega, by omega, hA, hN, hR, hQ, hDIF, hHeld⟩
              exact AllReadyH.nil
            exact AllReadyH.nil
          exact AllReadyH.nil
        refine AllReadyH.cons (o := ⟨some 5, _, _, _, _, _⟩) rfl (fun K hK => ?_) ?_
        · go_simp
          refine hK.out _ _ (hHeld.alloc hHeld.size _) (fun hHeld => ?_)
          clear hK K
          have lA := hA.lt
          refine any_named (fun W => Below W0.heap.size W0 W ∧ Blk W v0.heap.size TD [.slice none 0 0, .int .i64 0, .int .i64 0] ∧ Blk W v2.heap.size TD [.slice none 0 0, .int .i64 0, .int .i64 0] ∧ RowG.Own encX TX W W0.heap.size (.slice AR k cR) l) ⟨hHeld, by (repeat' (first | (with_reducible exact hA) | (with_reducible refine BlkP.Blk.drew ?_) | (with_reducible refine BlkP.Blk.drewN ?_ _) | (with_reducible refine BlkP.Blk.setAt (us := ?_) (by first | omega | (simp; done) | (simp; omega)) rfl ?_ ?_) | (with_reducible refine BlkP.Blk.otherAt ?_ (by first | omega | (simp; done) | (simp; omega))) | (with_reducible refine BlkP.Blk.newA' (by first | omega | (simp; done) | (simp; omega)) rfl) | (with_reducible refine BlkP.Blk.alloc ?_ _) | (exact rfl))), by (repeat' (first | (with_reducible refine BlkP.Blk.drew ?_) | (with_reducible refine BlkP.Blk.drewN ?_ _) | (with_reducible refine BlkP.Blk.setAt (us := ?_) (by first | omega | (simp; done) | (simp; omega)) rfl ?_ ?_) | (with_reducible refine BlkP.Blk.otherAt ?_ (by first | omega | (simp; done) | (simp; omega))) | (with_reducible refine BlkP.Blk.newA' (by first | omega | (simp; done) | (simp; omega)) rfl) | (with_reducible refine BlkP.Blk.alloc ?_ _) | (exact rfl))), hR.below (by (repeat' (first | (with_reducible exact Below.refl _ _) | (with_reducible refine Below.setCell ?_ (by (first | omega | (simp; done) | (simp; omega))) _) | (with_reducible refine Below.alloc ?_ (by (first | omega | (simp; done) | (simp; omega))) _) | (with_reducible refine Below.drew ?_) | (with_reducible refine below_drewN ?_ _))))⟩ ?_
          clear hHeld hA hR
          rintro v3 ⟨hHeld, hA, hN, hR⟩
          have hSv3 := hHeld.size
          refine wpAnyH_ready (rs := [3]) (by kernel_rfl) (by simp) ?_
          refine AllReadyH.cons (o := ⟨some 12, _, _, _, _, _⟩) rfl (fun K hK => ?_) ?_
          · have hHeld0 := hHeld.size
            go_simp
            refine (Next_c (n := n) (HT.out.below (below_t HB0.out hHeld))).mono ?_
            rintro e wf ⟨vf, rfl, hof, hbf⟩
            rw [HL.out] at hof
            obtain ⟨AQ, cQ, rfl, _, _, _⟩ := hof.form HK.out
            have hDIF : ∀ g, (Value.slice AR k cR).ownBlock = some g → (Value.slice AQ k cQ).ownBlock ≠ some g := fun g h1 h2 => absurd (Nat.lt_of_lt_of_le (hR.ge g h1).2 (hof.ge g h2).1) (Nat.lt_irrefl _)
            go_wp2_with fail
            refine hK.out _ _ (below_t hHeld hbf) (fun hHeld => ?_)
            clear hK K
            refine any_named (fun W => Below W0.heap.size W0 W ∧ Blk W v0.heap.size TD [.slice none 0 0, .int .i64 0, .int .i64 0] ∧ Blk W v2.heap.size TD [.slice none 0 0, .int .i64 0, .int .i64 0] ∧ RowG.Own encX TX W W0.heap.size (.slice AR k cR) l ∧ RowG.Own encX TX W W0.heap.size (.slice AQ k cQ) l) ⟨hHeld, hA.below hbf, hN.below hbf, hR.below hbf, hof.mono (show W0.heap.size ≤ _ from hHeld0)⟩ ?_
            clear hHeld hA hN hR
            rintro v4 ⟨hHeld, hA, hN, hR, hQ⟩
            have hSv4 := hHeld.size
            clear hof hbf
            refine wpAnyH_ready (rs := [6]) (by kernel_rfl) (by simp) ?_
            refine AllReadyH.cons (o := ⟨none, _, _, _, _, _⟩) rfl (fun K hK => ?_) ?_
            · have e0 := hA.cell (i := 0) (v := .slice none 0 0) rfl
              have f0 := hA.frozen 0
              have e1 := hA.cell (i := 1) (v := .int .i64 0) rfl
              have f1 := hA.frozen 1
              have e2 := hA.cell (i := 2) (v := .int .i64 0) rfl
              have f2 := hA.frozen 2
              have lA := hA.lt
              have lN := hN.lt
              go_simp
              refine hK.out _ _ (by (repeat' (first | (with_reducible exact Below.refl _ _) | (with_reducible refine Below.setCell ?_ (by (first | omega | (simp; done) | (simp; omega))) _) | (with_reducible refine Below.alloc ?_ (by (first | omega | (simp; done) | (simp; omega))) _) | (with_reducible refine Below.drew ?_) | (with_reducible refine below_drewN ?_ _) | (with_reducible refine Below.trans ?_ (Below.mono hHeld (by (first | omega | (simp; done) | (simp; omega)))))))) (fun hHeld => ?_)
              clear hK K
              clear e0 e1 e2 f0 f1 f2
              refine any_named (fun W => Below W0.heap.size W0 W ∧ Blk W v0.heap.size TD [.slice AR k cR, .int .i64 0, .int .i64 0] ∧ Blk W v2.heap.size TD [.slice none 0 0, .int .i64 0, .int .i64 0] ∧ RowG.Own encX TX W W0.heap.size (.slice AR k cR) l ∧ RowG.Own encX TX W W0.heap.size (.slice AQ k cQ) l) ⟨hHeld, by (repeat' (first | (with_reducible exact hA) | (with_reducible refine BlkP.Blk.drew ?_) | (with_reducible refine BlkP.Blk.drewN ?_ _) | (with_reducible refine BlkP.Blk.setAt (us := ?_) (by first | omega | (simp; done) | (simp; omega)) rfl ?_ ?_) | (with_reducible refine BlkP.Blk.otherAt ?_ (by first | omega | (simp; done) | (simp; omega))) | (with_reducible refine BlkP.Blk.newA' (by first | omega | (simp; done) | (simp; omega)) rfl) | (with_reducible refine BlkP.Blk.alloc ?_ _) | (exact rfl))), by (repeat' (first | (with_reducible exact hN) | (with_reducible refine BlkP.Blk.drew ?_) | (with_reducible refine BlkP.Blk.drewN ?_ _) | (with_reducible refine BlkP.Blk.setAt (us := ?_) (by first | omega | (simp; done) | (simp; omega)) rfl ?_ ?_) | (with_reducible refine BlkP.Blk.otherAt ?_ (by first | omega | (simp; done) | (simp; omega))) | (with_reducible refine BlkP.Blk.newA' (by first | omega | (simp; done) | (simp; omega)) rfl) | (with_reducible refine BlkP.Blk.alloc ?_ _) | (exact rfl))), by first | exact own_set3 hR hA | exact own_set3 hR.drew hA.drew, by first | exact own_set3 hQ hA | exact own_set3 hQ.drew hA.drew⟩ ?_
              clear hHeld hA hN hR hQ
              rintro v5 ⟨hHeld, hA, hN, hR, hQ⟩
              have hSv5 := hHeld.size
              refine wpAnyH_ready (rs := [7]) (by kernel_rfl) (by simp) ?_
              refine AllReadyH.cons (o := ⟨none, _, _, _, _, _⟩) rfl (fun K hK => ?_) ?_
              · have e0 := hN.cell (i := 0) (v := .slice none 0 0) rfl
                have f0 := hN.frozen 0
                have e1 := hN.cell (i := 1) (v := .int .i64 0) rfl
                have f1 := hN.frozen 1
                have e2 := hN.cell (i := 2) (v := .int .i64 0) rfl
                have f2 := hN.frozen 2
                have lA := hA.lt
                have lN := hN.lt
                go_simp
                refine hK.out _ _ (by (repeat' (first | (with_reducible exact Below.refl _ _) | (with_reducible refine Below.setCell ?_ (by (first | omega | (simp; done) | (simp; omega))) _) | (with_reducible refine Below.alloc ?_ (by (first | omega | (simp; done) | (simp; omega))) _) | (with_reducible refine Below.drew ?_) | (with_reducible refine below_drewN ?_ _) | (with_reducible refine Below.trans ?_ (Below.mono hHeld (by (first | omega | (simp; done) | (simp; omega)))))))) (fun hHeld => ?_)
                clear hK K
                clear e0 e1 e2 f0 f1 f2
                refine any_named (fun W => Below W0.heap.size W0 W ∧ Blk W v0.heap.size TD [.slice AR k cR, .int .i64 0, .int .i64 0] ∧ Blk W v2.heap.size TD [.slice AQ k cQ, .int .i64 0, .int .i64 0] ∧ RowG.Own encX TX W W0.heap.size (.slice AR k cR) l ∧ RowG.Own encX TX W W0.heap.size (.slice AQ k cQ) l) ⟨hHeld, by (repeat' (first | (with_reducible exact hA) | (with_reducible refine BlkP.Blk.drew ?_) | (with_reducible refine BlkP.Blk.drewN ?_ _) | (with_reducible refine BlkP.Blk.setAt (us := ?_) (by first | omega | (simp; done) | (simp; omega)) rfl ?_ ?_) | (with_reducible refine BlkP.Blk.otherAt ?_ (by first | omega | (simp; done) | (simp; omega))) | (with_reducible refine BlkP.Blk.newA' (by first | omega | (simp; done) | (simp; omega)) rfl) | (with_reducible refine BlkP.Blk.alloc ?_ _) | (exact rfl))), by (repeat' (first | (with_reducible exact hN) | (with_reducible refine BlkP.Blk.drew ?_) | (with_reducible refine BlkP.Blk.drewN ?_ _) | (with_reducible refine BlkP.Blk.setAt (us := ?_) (by first | omega | (simp; done) | (simp; omega)) rfl ?_ ?_) | (with_reducible refine BlkP.Blk.otherAt ?_ (by first | omega | (simp; done) | (simp; omega))) | (with_reducible refine BlkP.Blk.newA' (by first | omega | (simp; done) | (simp; omega)) rfl) | (with_reducible refine BlkP.Blk.alloc ?_ _) | (exact rfl))), by first | exact own_set3 hR hN | exact own_set3 hR.drew hN.drew, by first | exact own_set3 hQ hN | exact own_set3 hQ.drew hN.drew⟩ ?_
                clear hHeld hA hN hR hQ
                rintro v6 ⟨hHeld, hA, hN, hR, hQ⟩
                have hSv6 := hHeld.size
                refine wpAnyH_done (by kernel_rfl) ?_ _
                refine NoPanic.normal ?_
                go_wp2_with fail
                go_meet
                case rel =>
                  exact ⟨v0.heap.size, v2.heap.size, AR, cR, AQ, cQ, rfl, rfl, by omega, by omega, by omega, hA, hN, hR, hQ, hDIF, hHeld⟩
              exact AllReadyH.nil
            exact AllReadyH.nil
          exact AllReadyH.nil
        exact AllReadyH.nil
      refine AllReadyH.cons (o := ⟨some 5, _, _, _, _, _⟩) rfl (fun K hK => ?_) ?_
      · go_simp
        refine hK.out _ _ (hHeld.alloc hHeld.size _) (fun hHeld => ?_)
        clear hK K
        have lA := hA.lt
        refine any_named (fun W => Below W0.heap.size W0 W ∧ Blk W v0.heap.size TD [.slice none 0 0, .int .i64 0, .int .i64 0] ∧ Blk W v1.heap.size TD [.slice none 0 0, .int .i64 0, .int .i64 0]) ⟨hHeld, by (repeat' (first | (with_reducible exact hA) | (with_reducible refine BlkP.Blk.drew ?_) | (with_reducible refine BlkP.Blk.drewN ?_ _) | (with_reducible refine BlkP.Blk.setAt (us := ?_) (by first | omega | (simp; done) | (simp; omega)) rfl ?_ ?_) | (with_reducible refine BlkP.Blk.otherAt ?_ (by first | omega | (simp; done) | (simp; omega))) | (with_reducible refine BlkP.Blk.newA' (by first | omega | (simp; done) | (simp; omega)) rfl) | (with_reducible refine BlkP.Blk.alloc ?_ _) | (exact rfl))), by (repeat' (first | (with_reducible refine BlkP.Blk.drew ?_) | (with_reducible refine BlkP.Blk.drewN ?_ _) | (with_reducible refine BlkP.Blk.setAt (us := ?_) (by first | omega | (simp; done) | (simp; omega)) rfl ?_ ?_) | (with_reducible refine BlkP.Blk.otherAt ?_ (by first | omega | (simp; done) | (simp; omega))) | (with_reducible refine BlkP.Blk.newA' (by first | omega | (simp; done) | (simp; omega)) rfl) | (with_reducible refine BlkP.Blk.alloc ?_ _) | (exact rfl)))⟩ ?_
        clear hHeld hA
        rintro v2 ⟨hHeld, hA, hN⟩
        have hSv2 := hHeld.size
        refine wpAnyH_ready (rs := [1]) (by kernel_rfl) (by simp) ?_
        refine AllReadyH.cons (o := ⟨some 10, _, _, _, _, _⟩) rfl (fun K hK => ?_) ?_
        · have hHeld0 := hHeld.size
          go_simp
          refine (Next_c (n := n) (HT.out.below (below_t HB0.out hHeld))).mono ?_
          rintro e wf ⟨vf, rfl, hof, hbf⟩
          rw [HL.out] at hof
          obtain ⟨AR, cR, rfl, _, _, _⟩ := hof.form HK.out
          go_wp2_with fail
          refine hK.out _ _ (below_t hHeld hbf) (fun hHeld => ?_)
          clear hK K
          refine any_named (fun W => Below W0.heap.size W0 W ∧ Blk W v0.heap.size TD [.slice none 0 0, .int .i64 0, .int .i64 0] ∧ Blk W v1.heap.size TD [.slice none 0 0, .int .i64 0, .int .i64 0] ∧ RowG.Own encX TX W W0.heap.size (.slice AR k cR) l) ⟨hHeld, hA.below hbf, hN.below hbf, hof.mono (show W0.heap.size ≤ _ from hHeld0)⟩ ?_
          clear hHeld hA hN
          rintro v3 ⟨hHeld, hA, hN, hR⟩
          have hSv3 := hHeld.size
          clear hof hbf
          refine wpAnyH_ready (rs := [3]) (by kernel_rfl) (by simp) ?_
          refine AllReadyH.cons (o := ⟨some 12, _, _, _, _, _⟩) rfl (fun K hK => ?_) ?_
          · have hHeld0 := hHeld.size
            go_simp
            refine (Next_c (n := n) (HT.out.below (below_t HB0.out hHeld))).mono ?_
            rintro e wf ⟨vf, rfl, hof, hbf⟩
            rw [HL.out] at hof
            obtain ⟨AQ, cQ, rfl, _, _, _⟩ := hof.form HK.out
            have hDIF : ∀ g, (Value.slice AR k cR).ownBlock = some g → (Value.slice AQ k cQ).ownBlock ≠ some g := fun g h1 h2 => absurd (Nat.lt_of_lt_of_le (hR.ge g h1).2 (hof.ge g h2).1) (Nat.lt_irrefl _)
            go_wp2_with fail
            refine hK.out _ _ (below_t hHeld hbf) (fun hHeld => ?_)
            clear hK K
            refine any_named (fun W => Below W0.heap.size W0 W ∧ Blk W v0.heap.size TD [.slice none 0 0, .int .i64 0, .int .i64 0] ∧ Blk W v1.heap.size TD [.slice none 0 0, .int .i64 0, .int .i64 0] ∧ RowG.Own encX TX W W0.heap.size (.slice AR k cR) l ∧ RowG.Own encX TX W W0.heap.size (.slice AQ k cQ) l) ⟨hHeld, hA.below hbf, hN.below hbf, hR.below hbf, hof.mono (show W0.heap.size ≤ _ from hHeld0)⟩ ?_
            clear hHeld hA hN hR
            rintro v4 ⟨hHeld, hA, hN, hR, hQ⟩
            have hSv4 := hHeld.size
            clear hof hbf
            refine wpAnyH_ready (rs := [6]) (by kernel_rfl) (by simp) ?_
            refine AllReadyH.cons (o := ⟨none, _, _, _, _, _⟩) rfl (fun K hK => ?_) ?_
            · have e0 := hA.cell (i := 0) (v := .slice none 0 0) rfl
              have f0 := hA.frozen 0
              have e1 := hA.cell (i := 1) (v := .int .i64 0) rfl
              have f1 := hA.frozen 1
              have e2 := hA.cell (i := 2) (v := .int .i64 0) rfl
              have f2 := hA.frozen 2
              have lA := hA.lt
              have lN := hN.lt
              go_simp
              refine hK.out _ _ (by (repeat' (first | (with_reducible exact Below.refl _ _) | (with_reducible refine Below.setCell ?_ (by (first | omega | (simp; done) | (simp; omega))) _) | (with_reducible refine Below.alloc ?_ (by (first | omega | (simp; done) | (simp; omega))) _) | (with_reducible refine Below.drew ?_) | (with_reducible refine below_drewN ?_ _) | (with_reducible refine Below.trans ?_ (Below.mono hHeld (by (first | omega | (simp; done) | (simp; omega)))))))) (fun hHeld => ?_)
              clear hK K
              clear e0 e1 e2 f0 f1 f2
              refine any_named (fun W => Below W0.heap.size W0 W ∧ Blk W v0.heap.size TD [.slice AR k cR, .int .i64 0, .int .i64 0] ∧ Blk W v1.heap.size TD [.slice none 0 0, .int .i64 0, .int .i64 0] ∧ RowG.Own encX TX W W0.heap.size (.slice AR k cR) l ∧ RowG.Own encX TX W W0.heap.size (.slice AQ k cQ) l) ⟨hHeld, by (repeat' (first | (with_reducible exact hA) | (with_reducible refine BlkP.Blk.drew ?_) | (with_reducible refine BlkP.Blk.drewN ?_ _) | (with_reducible refine BlkP.Blk.setAt (us := ?_) (by first | omega | (simp; done) | (simp; omega)) rfl ?_ ?_) | (with_reducible refine BlkP.Blk.otherAt ?_ (by first | omega | (simp; done) | (simp; omega))) | (with_reducible refine BlkP.Blk.newA' (by first | omega | (simp; done) | (simp; omega)) rfl) | (with_reducible refine BlkP.Blk.alloc ?_ _) | (exact rfl))), by (repeat' (first | (with_reducible exact hN) | (with_reducible refine BlkP.Blk.drew ?_) | (with_reducible refine BlkP.Blk.drewN ?_ _) | (with_reducible refine BlkP.Blk.setAt (us := ?_) (by first | omega | (simp; done) | (simp; omega)) rfl ?_ ?_) | (with_reducible refine BlkP.Blk.otherAt ?_ (by first | omega | (simp; done) | (simp; omega))) | (with_reducible refine BlkP.Blk.newA' (by first | omega | (simp; done) | (simp; omega)) rfl) | (with_reducible refine BlkP.Blk.alloc ?_ _) | (exact rfl))), by first | exact own_set3 hR hA | exact own_set3 hR.drew hA.drew, by first | exact own_set3 hQ hA | exact own_set3 hQ.drew hA.drew⟩ ?_
              clear hHeld hA hN hR hQ
              rintro v5 ⟨hHeld, hA, hN, hR, hQ⟩
              have hSv5 := hHeld.size
              refine wpAnyH_ready (rs := [7]) (by kernel_rfl) (by simp) ?_
              refine AllReadyH.cons (o := ⟨none, _, _, _, _, _⟩) rfl (fun K hK => ?_) ?_
              · have e0 := hN.cell (i := 0) (v := .slice none 0 0) rfl
                have f0 := hN.frozen 0
                have e1 := hN.cell (i := 1) (v := .int .i64 0) rfl
                have f1 := hN.frozen 1
                have e2 := hN.cell (i := 2) (v := .int .i64 0) rfl
                have f2 := hN.frozen 2
                have lA := hA.lt
                have lN := hN.lt
                go_simp
                refine hK.out _ _ (by (repeat' (first | (with_reducible exact Below.refl _ _) | (with_reducible refine Below.setCell ?_ (by (first | omega | (simp; done) | (simp; omega))) _) | (with_reducible refine Below.alloc ?_ (by (first | omega | (simp; done) | (simp; omega))) _) | (with_reducible refine Below.drew ?_) | (with_reducible refine below_drewN ?_ _) | (with_reducible refine Below.trans ?_ (Below.mono hHeld (by (first | omega | (simp; done) | (simp; omega)))))))) (fun hHeld => ?_)
                clear hK K
                clear e0 e1 e2 f0 f1 f2
                refine any_named (fun W => Below W0.heap.size W0 W ∧ Blk W v0.heap.size TD [.slice AR k cR, .int .i64 0, .int .i64 0] ∧ Blk W v1.heap.size TD [.slice AQ k cQ, .int .i64 0, .int .i64 0] ∧ RowG.Own encX TX W W0.heap.size (.slice AR k cR) l ∧ RowG.Own encX TX W W0.heap.size (.slice AQ k cQ) l) ⟨hHeld, by (repeat' (first | (with_reducible exact hA) | (with_reducible refine BlkP.Blk.drew ?_) | (with_reducible refine BlkP.Blk.drewN ?_ _) | (with_reducible refine BlkP.Blk.setAt (us := ?_) (by first | omega | (simp; done) | (simp; omega)) rfl ?_ ?_) | (with_reducible refine BlkP.Blk.otherAt ?_ (by first | omega | (simp; done) | (simp; omega))) | (with_reducible refine BlkP.Blk.newA' (by first | omega | (simp; done) | (simp; omega)) rfl) | (with_reducible refine BlkP.Blk.alloc ?_ _) | (exact rfl))), by (repeat' (first | (with_reducible exact hN) | (with_reducible refine BlkP.Blk.drew ?_) | (with_reducible refine BlkP.Blk.drewN ?_ _) | (with_reducible refine BlkP.Blk.setAt (us := ?_) (by first | omega | (simp; done) | (simp; omega)) rfl ?_ ?_) | (with_reducible refine BlkP.Blk.otherAt ?_ (by first | omega | (simp; done) | (simp; omega))) | (with_reducible refine BlkP.Blk.newA' (by first | omega | (simp; done) | (simp; omega)) rfl) | (with_reducible refine BlkP.Blk.alloc ?_ _) | (exact rfl))), by first | exact own_set3 hR hN | exact own_set3 hR.drew hN.drew, by first | exact own_set3 hQ hN | exact own_set3 hQ.drew hN.drew⟩ ?_
                clear hHeld hA hN hR hQ
                rintro v6 ⟨hHeld, hA, hN, hR, hQ⟩
                have hSv6 := hHeld.size
                refine wpAnyH_done (by kernel_rfl) ?_ _
                refine NoPanic.normal ?_
                go_wp2_with fail
                go_meet
                case rel =>
                  exact ⟨v0.heap.size, v1.heap.size, AR, cR, AQ, cQ, rfl, rfl, by omega, by omega, by omega, hA, hN, hR, hQ, hDIF, hHeld⟩
              exact AllReadyH.nil
            exact AllReadyH.nil
          exact AllReadyH.nil
        exact AllReadyH.nil
      exact AllReadyH.nil
    refine AllReadyH.cons (o := ⟨some 5, _, _, _, _, _⟩) rfl (fun K hK => ?_) ?_
    · go_simp
      refine hK.out _ _ (hHeld.alloc hHeld.size _) (fun hHeld => ?_)
      clear hK K
      refine any_named (fun W => Below W0.heap.size W0 W ∧ Blk W v0.heap.size TD [.slice none 0 0, .int .i64 0, .int .i64 0]) ⟨hHeld, by (repeat' (first | (with_reducible refine BlkP.Blk.drew ?_) | (with_reducible refine BlkP.Blk.drewN ?_ _) | (with_reducible refine BlkP.Blk.setAt (us := ?_) (by first | omega | (simp; done) | (simp; omega)) rfl ?_ ?_) | (with_reducible refine BlkP.Blk.otherAt ?_ (by first | omega | (simp; done) | (simp; omega))) | (with_reducible refine BlkP.Blk.newA' (by first | omega | (simp; done) | (simp; omega)) rfl) | (with_reducible refine BlkP.Blk.alloc ?_ _) | (exact rfl)))⟩ ?_
      clear hHeld
      rintro v1 ⟨hHeld, hN⟩
      have hSv1 := hHeld.size
      refine wpAnyH_ready (rs := [1, 4]) (by kernel_rfl) (by simp) ?_
      refine AllReadyH.cons (o := ⟨some 10, _, _, _, _, _⟩) rfl (fun K hK => ?_) ?_
      · have hHeld0 := hHeld.size
        go_simp
        refine (Next_c (n := n) (HT.out.below (below_t HB0.out hHeld))).mono ?_
        rintro e wf ⟨vf, rfl, hof, hbf⟩
        rw [HL.out] at hof
        obtain ⟨AR, cR, rfl, _, _, _⟩ := hof.form HK.out
        go_wp2_with fail
        refine hK.out _ _ (below_t hHeld hbf) (fun hHeld => ?_)
        clear hK K
        refine any_named (fun W => Below W0.heap.size W0 W ∧ Blk W v0.heap.size TD [.slice none 0 0, .int .i64 0, .int .i64 0] ∧ RowG.Own encX TX W W0.heap.size (.slice AR k cR) l) ⟨hHeld, hN.below hbf, hof.mono (show W0.heap.size ≤ _ from hHeld0)⟩ ?_
        clear hHeld hN
        rintro v2 ⟨hHeld, hN, hR⟩
        have hSv2 := hHeld.size
        clear hof hbf
        refine wpAnyH_ready (rs := [3, 4]) (by kernel_rfl) (by simp) ?_
        refine AllReadyH.cons (o := ⟨some 12, _, _, _, _, _⟩) rfl (fun K hK => ?_) ?_
        · have hHeld0 := hHeld.size
          go_simp
          refine (Next_c (n := n) (HT.out.below (below_t HB0.out hHeld))).mono ?_
          rintro e wf ⟨vf, rfl, hof, hbf⟩
          rw [HL.out] at hof
          obtain ⟨AQ, cQ, rfl, _, _, _⟩ := hof.form HK.out
          have hDIF : ∀ g, (Value.slice AR k cR).ownBlock = some g → (Value.slice AQ k cQ).ownBlock ≠ some g := fun g h1 h2 => absurd (Nat.lt_of_lt_of_le (hR.ge g h1).2 (hof.ge g h2).1) (Nat.lt_irrefl _)
          go_wp2_with fail
          refine hK.out _ _ (below_t hHeld hbf) (fun hHeld => ?_)
          clear hK K
          refine any_named (fun W => Below W0.heap.size W0 W ∧ Blk W v0.heap.size TD [.slice none 0 0, .int .i64 0, .int .i64 0] ∧ RowG.Own encX TX W W0.heap.size (.slice AR k cR) l ∧ RowG.Own encX TX W W0.heap.size (.slice AQ k cQ) l) ⟨hHeld, hN.below hbf, hR.below hbf, hof.mono (show W0.heap.size ≤ _ from hHeld0)⟩ ?_
          clear hHeld hN hR
          rintro v3 ⟨hHeld, hN, hR, hQ⟩
          have hSv3 := hHeld.size
          clear hof hbf
          refine wpAnyH_ready (rs := [4]) (by kernel_rfl) (by simp) ?_
          refine AllReadyH.cons (o := ⟨some 4, _, _, _, _, _⟩) rfl (fun K hK => ?_) ?_
          · go_simp
            refine hK.out _ _ (hHeld.alloc hHeld.size _) (fun hHeld => ?_)
            clear hK K
            have lN := hN.lt
            refine any_named (fun W => Below W0.heap.size W0 W ∧ Blk W v3.heap.size TD [.slice none 0 0, .int .i64 0, .int .i64 0] ∧ Blk W v0.heap.size TD [.slice none 0 0, .int .i64 0, .int .i64 0] ∧ RowG.Own encX TX W W0.heap.size (.slice AR k cR) l ∧ RowG.Own encX TX W W0.heap.size (.slice AQ k cQ) l) ⟨hHeld, by (repeat' (first | (with_reducible refine BlkP.Blk.drew ?_) | (with_reducible refine BlkP.Blk.drewN ?_ _) | (with_reducible refine BlkP.Blk.setAt (us := ?_) (by first | omega | (simp; done) | (simp; omega)) rfl ?_ ?_) | (with_reducible refine BlkP.Blk.otherAt ?_ (by first | omega | (simp; done) | (simp; omega))) | (with_reducible refine BlkP.Blk.newA' (by first | omega | (simp; done) | (simp; omega)) rfl) | (with_reducible refine BlkP.Blk.alloc ?_ _) | (exact rfl))), by (repeat' (first | (with_reducible exact hN) | (with_reducible refine BlkP.Blk.drew ?_) | (with_reducible refine BlkP.Blk.drewN ?_ _) | (with_reducible refine BlkP.Blk.setAt (us := ?_) (by first | omega | (simp; done) | (simp; omega)) rfl ?_ ?_) | (with_reducible refine BlkP.Blk.otherAt ?_ (by first | omega | (simp; done) | (simp; omega))) | (with_reducible refine BlkP.Blk.newA' (by first | omega | (simp; done) | (simp; omega)) rfl) | (with_reducible refine BlkP.Blk.alloc ?_ _) | (exact rfl))), hR.below (by (repeat' (first | (with_reducible exact Below.refl _ _) | (with_reducible refine Below.setCell ?_ (by (first | omega | (simp; done) | (simp; omega))) _) | (with_reducible refine Below.alloc ?_ (by (first | omega | (simp; done) | (simp; omega))) _) | (with_reducible refine Below.drew ?_) | (with_reducible refine below_drewN ?_ _)))), hQ.below (by (repeat' (first | (with_reducible exact Below.refl _ _) | (with_reducible refine Below.setCell ?_ (by (first | omega | (simp; done) | (simp; omega))) _) | (with_reducible refine Below.alloc ?_ (by (first | omega | (simp; done) | (simp; omega))) _) | (with_reducible refine Below.drew ?_) | (with_reducible refine below_drewN ?_ _))))⟩ ?_
            clear hHeld hN hR hQ
            rintro v4 ⟨hHeld, hA, hN, hR, hQ⟩
            have hSv4 := hHeld.size
            refine wpAnyH_ready (rs := [6]) (by kernel_rfl) (by simp) ?_
            refine AllReadyH.cons (o := ⟨none, _, _, _, _, _⟩) rfl (fun K hK => ?_) ?_
            · have e0 := hA.cell (i := 0) (v := .slice none 0 0) rfl
              have f0 := hA.frozen 0
              have e1 := hA.cell (i := 1) (v := .int .i64 0) rfl
              have f1 := hA.frozen 1
              have e2 := hA.cell (i := 2) (v := .int .i64 0) rfl
              have f2 := hA.frozen 2
              have lA := hA.lt
              have lN := hN.lt
              go_simp
              refine hK.out _ _ (by (repeat' (first | (with_reducible exact Below.refl _ _) | (with_reducible refine Below.setCell ?_ (by (first | omega | (simp; done) | (simp; omega))) _) | (with_reducible refine Below.alloc ?_ (by (first | omega | (simp; done) | (simp; omega))) _) | (with_reducible refine Below.drew ?_) | (with_reducible refine below_drewN ?_ _) | (with_reducible refine Below.trans ?_ (Below.mono hHeld (by (first | omega | (simp; done) | (simp; omega)))))))) (fun hHeld => ?_)
              clear hK K
              clear e0 e1 e2 f0 f1 f2
              refine any_named (fun W => Below W0.heap.size W0 W ∧ Blk W v3.heap.size TD [.slice AR k cR, .int .i64 0, .int .i64 0] ∧ Blk W v0.heap.size TD [.slice none 0 0, .int .i64 0, .int .i64 0] ∧ RowG.Own encX TX W W0.heap.size (.slice AR k cR) l ∧ RowG.Own encX TX W W0.heap.size (.slice AQ k cQ) l) ⟨hHeld, by (repeat' (first | (with_reducible exact hA) | (with_reducible refine BlkP.Blk.drew ?_) | (with_reducible refine BlkP.Blk.drewN ?_ _) | (with_reducible refine BlkP.Blk.setAt (us := ?_) (by first | omega | (simp; done) | (simp; omega)) rfl ?_ ?_) | (with_reducible refine BlkP.Blk.otherAt ?_ (by first | omega | (simp; done) | (simp; omega))) | (with_reducible refine BlkP.Blk.newA' (by first | omega | (simp; done) | (simp; omega)) rfl) | (with_reducible refine BlkP.Blk.alloc ?_ _) | (exact rfl))), by (repeat' (first | (with_reducible exact hN) | (with_reducible refine BlkP.Blk.drew ?_) | (with_reducible refine BlkP.Blk.drewN ?_ _) | (with_reducible refine BlkP.Blk.setAt (us := ?_) (by first | omega | (simp; done) | (simp; omega)) rfl ?_ ?_) | (with_reducible refine BlkP.Blk.otherAt ?_ (by first | omega | (simp; done) | (simp; omega))) | (with_reducible refine BlkP.Blk.newA' (by first | omega | (simp; done) | (simp; omega)) rfl) | (with_reducible refine BlkP.Blk.alloc ?_ _) | (exact rfl))), by first | exact own_set3 hR hA | exact own_set3 hR.drew hA.drew, by first | exact own_set3 hQ hA | exact own_set3 hQ.drew hA.drew⟩ ?_
              clear hHeld hA hN hR hQ
              rintro v5 ⟨hHeld, hA, hN, hR, hQ⟩
              have hSv5 := hHeld.size
              refine wpAnyH_ready (rs := [7]) (by kernel_rfl) (by simp) ?_
              refine AllReadyH.cons (o := ⟨none, _, _, _, _, _⟩) rfl (fun K hK => ?_) ?_
              · have e0 := hN.cell (i := 0) (v := .slice none 0 0) rfl
                have f0 := hN.frozen 0
                have e1 := hN.cell (i := 1) (v := .int .i64 0) rfl
                have f1 := hN.frozen 1
                have e2 := hN.cell (i := 2) (v := .int .i64 0) rfl
                have f2 := hN.frozen 2
                have lA := hA.lt
                have lN := hN.lt
                go_simp
                refine hK.out _ _ (by (repeat' (first | (with_reducible exact Below.refl _ _) | (with_reducible refine Below.setCell ?_ (by (first | omega | (simp; done) | (simp; omega))) _) | (with_reducible refine Below.alloc ?_ (by (first | omega | (simp; done) | (simp; omega))) _) | (with_reducible refine Below.drew ?_) | (with_reducible refine below_drewN ?_ _) | (with_reducible refine Below.trans ?_ (Below.mono hHeld (by (first | omega | (simp; done) | (simp; omega)))))))) (fun hHeld => ?_)
                clear hK K
                clear e0 e1 e2 f0 f1 f2
                refine any_named (fun W => Below W0.heap.size W0 W ∧ Blk W v3.heap.size TD [.slice AR k cR, .int .i64 0, .int .i64 0] ∧ Blk W v0.heap.size TD [.slice AQ k cQ, .int .i64 0, .int .i64 0] ∧ RowG.Own encX TX W W0.heap.size (.slice AR k cR) l ∧ RowG.Own encX TX W W0.heap.size (.slice AQ k cQ) l) ⟨hHeld, by (repeat' (first | (with_reducible exact hA) | (with_reducible refine BlkP.Blk.drew ?_) | (with_reducible refine BlkP.Blk.drewN ?_ _) | (with_reducible refine BlkP.Blk.setAt (us := ?_) (by first | omega | (simp; done) | (simp; omega)) rfl ?_ ?_) | (with_reducible refine BlkP.Blk.otherAt ?_ (by first | omega | (simp; done) | (simp; omega))) | (with_reducible refine BlkP.Blk.newA' (by first | omega | (simp; done) | (simp; omega)) rfl) | (with_reducible refine BlkP.Blk.alloc ?_ _) | (exact rfl))), by (repeat' (first | (with_reducible exact hN) | (with_reducible refine BlkP.Blk.drew ?_) | (with_reducible refine BlkP.Blk.drewN ?_ _) | (with_reducible refine BlkP.Blk.setAt (us := ?_) (by first | omega | (simp; done) | (simp; omega)) rfl ?_ ?_) | (with_reducible refine BlkP.Blk.otherAt ?_ (by first | omega | (simp; done) | (simp; omega))) | (with_reducible refine BlkP.Blk.newA' (by first | omega | (simp; done) | (simp; omega)) rfl) | (with_reducible refine BlkP.Blk.alloc ?_ _) | (exact rfl))), by first | exact own_set3 hR hN | exact own_set3 hR.drew hN.drew, by first | exact own_set3 hQ hN | exact own_set3 hQ.drew hN.drew⟩ ?_
                clear hHeld hA hN hR hQ
                rintro v6 ⟨hHeld, hA, hN, hR, hQ⟩
                have hSv6 := hHeld.size
                refine wpAnyH_done (by kernel_rfl) ?_ _
                refine NoPanic.normal ?_
                go_wp2_with fail
                go_meet
                case rel =>
                  exact ⟨v3.heap.size, v0.heap.size, AR, cR, AQ, cQ, rfl, rfl, by omega, by omega, by omega, hA, hN, hR, hQ, hDIF, hHeld⟩
              exact AllReadyH.nil
            exact AllReadyH.nil
          exact AllReadyH.nil
        refine AllReadyH.cons (o := ⟨some 4, _, _, _, _, _⟩) rfl (fun K hK => ?_) ?_
        · go_simp
          refine hK.out _ _ (hHeld.alloc hHeld.size _) (fun hHeld => ?_)
          clear hK K
          have lN := hN.lt
          refine any_named (fun W => Below W0.heap.size W0 W ∧ Blk W v2.heap.size TD [.slice none 0 0, .int .i64 0, .int .i64 0] ∧ Blk W v0.heap.size TD [.slice none 0 0, .int .i64 0, .int .i64 0] ∧ RowG.Own encX TX W W0.heap.size (.slice AR k cR) l) ⟨hHeld, by (repeat' (first | (with_reducible refine BlkP.Blk.drew ?_) | (with_reducible refine BlkP.Blk.drewN ?_ _) | (with_reducible refine BlkP.Blk.setAt (us := ?_) (by first | omega | (simp; done) | (simp; omega)) rfl ?_ ?_) | (with_reducible refine BlkP.Blk.otherAt ?_ (by first | omega | (simp; done) | (simp; omega))) | (with_reducible refine BlkP.Blk.newA' (by first | omega | (simp; done) | (simp; omega)) rfl) | (with_reducible refine BlkP.Blk.alloc ?_ _) | (exact rfl))), by (repeat' (first | (with_reducible exact hN) | (with_reducible refine BlkP.Blk.drew ?_) | (with_reducible refine BlkP.Blk.drewN ?_ _) | (with_reducible refine BlkP.Blk.setAt (us := ?_) (by first | omega | (simp; done) | (simp; omega)) rfl ?_ ?_) | (with_reducible refine BlkP.Blk.otherAt ?_ (by first | omega | (simp; done) | (simp; omega))) | (with_reducible refine BlkP.Blk.newA' (by first | omega | (simp; done) | (simp; omega)) rfl) | (with_reducible refine BlkP.Blk.alloc ?_ _) | (exact rfl))), hR.below (by (repeat' (first | (with_reducible exact Below.refl _ _) | (with_reducible refine Below.setCell ?_ (by (first | omega | (simp; done) | (simp; omega))) _) | (with_reducible refine Below.alloc ?_ (by (first | omega | (simp; done) | (simp; omega))) _) | (with_reducible refine Below.drew ?_) | (with_reducible refine below_drewN ?_ _))))⟩ ?_
          clear hHeld hN hR
          rintro v3 ⟨hHeld, hA, hN, hR⟩
          have hSv3 := hHeld.size
          refine wpAnyH_ready (rs := [3]) (by kernel_rfl) (by simp) ?_
          refine AllReadyH.cons (o := ⟨some 12, _, _, _, _, _⟩) rfl (fun K hK => ?_) ?_
          · have hHeld0 := hHeld.size
            go_simp
            refine (Next_c (n := n) (HT.out.below (below_t HB0.out hHeld))).mono ?_
            rintro e wf ⟨vf, rfl, hof, hbf⟩
            rw [HL.out] at hof
            obtain ⟨AQ, cQ, rfl, _, _, _⟩ := hof.form HK.out
            have hDIF : ∀ g, (Value.slice AR k cR).ownBlock = some g → (Value.slice AQ k cQ).ownBlock ≠ some g := fun g h1 h2 => absurd (Nat.lt_of_lt_of_le (hR.ge g h1).2 (hof.ge g h2).1) (Nat.lt_irrefl _)
            go_wp2_with fail
            refine hK.out _ _ (below_t hHeld hbf) (fun hHeld => ?_)
            clear hK K
            refine any_named (fun W => Below W0.heap.size W0 W ∧ Blk W v2.heap.size TD [.slice none 0 0, .int .i64 0, .int .i64 0] ∧ Blk W v0.heap.size TD [.slice none 0 0, .int .i64 0, .int .i64 0] ∧ RowG.Own encX TX W W0.heap.size (.slice AR k cR) l ∧ RowG.Own encX TX W W0.heap.size (.slice AQ k cQ) l) ⟨hHeld, hA.below hbf, hN.below hbf, hR.below hbf, hof.mono (show W0.heap.size ≤ _ from hHeld0)⟩ ?_
            clear hHeld hA hN hR
            rintro v4 ⟨hHeld, hA, hN, hR, hQ⟩
            have hSv4 := hHeld.size
            clear hof hbf
            refine wpAnyH_ready (rs := [6]) (by kernel_rfl) (by simp) ?_
            refine AllReadyH.cons (o := ⟨none, _, _, _, _, _⟩) rfl (fun K hK => ?_) ?_
            · have e0 := hA.cell (i := 0) (v := .slice none 0 0) rfl
              have f0 := hA.frozen 0
              have e1 := hA.cell (i := 1) (v := .int .i64 0) rfl
              have f1 := hA.frozen 1
              have e2 := hA.cell (i := 2) (v := .int .i64 0) rfl
              have f2 := hA.frozen 2
              have lA := hA.lt
              have lN := hN.lt
              go_simp
              refine hK.out _ _ (by (repeat' (first | (with_reducible exact Below.refl _ _) | (with_reducible refine Below.setCell ?_ (by (first | omega | (simp; done) | (simp; omega))) _) | (with_reducible refine Below.alloc ?_ (by (first | omega | (simp; done) | (simp; omega))) _) | (with_reducible refine Below.drew ?_) | (with_reducible refine below_drewN ?_ _) | (with_reducible refine Below.trans ?_ (Below.mono hHeld (by (first | omega | (simp; done) | (simp; omega)))))))) (fun hHeld => ?_)
              clear hK K
              clear e0 e1 e2 f0 f1 f2
              refine any_named (fun W => Below W0.heap.size W0 W ∧ Blk W v2.heap.size TD [.slice AR k cR, .int .i64 0, .int .i64 0] ∧ Blk W v0.heap.size TD [.slice none 0 0, .int .i64 0, .int .i64 0] ∧ RowG.Own encX TX W W0.heap.size (.slice AR k cR) l ∧ RowG.Own encX TX W W0.heap.size (.slice AQ k cQ) l) ⟨hHeld, by (repeat' (first | (with_reducible exact hA) | (with_reducible refine BlkP.Blk.drew ?_) | (with_reducible refine BlkP.Blk.drewN ?_ _) | (with_reducible refine BlkP.Blk.setAt (us := ?_) (by first | omega | (simp; done) | (simp; omega)) rfl ?_ ?_) | (with_reducible refine BlkP.Blk.otherAt ?_ (by first | omega | (simp; done) | (simp; omega))) | (with_reducible refine BlkP.Blk.newA' (by first | omega | (simp; done) | (simp; omega)) rfl) | (with_reducible refine BlkP.Blk.alloc ?_ _) | (exact rfl))), by (repeat' (first | (with_reducible exact hN) | (with_reducible refine BlkP.Blk.drew ?_) | (with_reducible refine BlkP.Blk.drewN ?_ _) | (with_reducible refine BlkP.Blk.setAt (us := ?_) (by first | omega | (simp; done) | (simp; omega)) rfl ?_ ?_) | (with_reducible refine BlkP.Blk.otherAt ?_ (by first | omega | (simp; done) | (simp; omega))) | (with_reducible refine BlkP.Blk.newA' (by first | omega | (simp; done) | (simp; omega)) rfl) | (with_reducible refine BlkP.Blk.alloc ?_ _) | (exact rfl))), by first | exact own_set3 hR hA | exact own_set3 hR.drew hA.drew, by first | exact own_set3 hQ hA | exact own_set3 hQ.drew hA.drew⟩ ?_
              clear hHeld hA hN hR hQ
              rintro v5 ⟨hHeld, hA, hN, hR, hQ⟩
              have hSv5 := hHeld.size
              refine wpAnyH_ready (rs := [7]) (by kernel_rfl) (by simp) ?_
              refine AllReadyH.cons (o := ⟨none, _, _, _, _, _⟩) rfl (fun K hK => ?_) ?_
              · have e0 := hN.cell (i := 0) (v := .slice none 0 0) rfl
                have f0 := hN.frozen 0
                have e1 := hN.cell (i := 1) (v := .int .i64 0) rfl
                have f1 := hN.frozen 1
                have e2 := hN.cell (i := 2) (v := .int .i64 0) rfl
                have f2 := hN.frozen 2
                have lA := hA.lt
                have lN := hN.lt
                go_simp
                refine hK.out _ _ (by (repeat' (first | (with_reducible exact Below.refl _ _) | (with_reducible refine Below.setCell ?_ (by (first | omega | (simp; done) | (simp; omega))) _) | (with_reducible refine Below.alloc ?_ (by (first | omega | (simp; done) | (simp; omega))) _) | (with_reducible refine Below.drew ?_) | (with_reducible refine below_drewN ?_ _) | (with_reducible refine Below.trans ?_ (Below.mono hHeld (by (first | omega | (simp; done) | (simp; omega)))))))) (fun hHeld => ?_)
                clear hK K
                clear e0 e1 e2 f0 f1 f2
                refine any_named (fun W => Below W0.heap.size W0 W ∧ Blk W v2.heap.size TD [.slice AR k cR, .int .i64 0, .int .i64 0] ∧ Blk W v0.heap.size TD [.slice AQ k cQ, .int .i64 0, .int .i64 0] ∧ RowG.Own encX TX W W0.heap.size (.slice AR k cR) l ∧ RowG.Own encX TX W W0.heap.size (.slice AQ k cQ) l) ⟨hHeld, by (repeat' (first | (with_reducible exact hA) | (with_reducible refine BlkP.Blk.drew ?_) | (with_reducible refine BlkP.Blk.drewN ?_ _) | (with_reducible refine BlkP.Blk.setAt (us := ?_) (by first | omega | (simp; done) | (simp; omega)) rfl ?_ ?_) | (with_reducible refine BlkP.Blk.otherAt ?_ (by first | omega | (simp; done) | (simp; omega))) | (with_reducible refine BlkP.Blk.newA' (by first | omega | (simp; done) | (simp; omega)) rfl) | (with_reducible refine BlkP.Blk.alloc ?_ _) | (exact rfl))), by (repeat' (first | (with_reducible exact hN) | (with_reducible refine BlkP.Blk.drew ?_) | (with_reducible refine BlkP.Blk.drewN ?_ _) | (with_reducible refine BlkP.Blk.setAt (us := ?_) (by first | omega | (simp; done) | (simp; omega)) rfl ?_ ?_) | (with_reducible refine BlkP.Blk.otherAt ?_ (by first | omega | (simp; done) | (simp; omega))) | (with_reducible refine BlkP.Blk.newA' (by first | omega | (simp; done) | (simp; omega)) rfl) | (with_reducible refine BlkP.Blk.alloc ?_ _) | (exact rfl))), by first | exact own_set3 hR hN | exact own_set3 hR.drew hN.drew, by first | exact own_set3 hQ hN | exact own_set3 hQ.drew hN.drew⟩ ?_
                clear hHeld hA hN hR hQ
                rintro v6 ⟨hHeld, hA, hN, hR, hQ⟩
                have hSv6 := hHeld.size
                refine wpAnyH_done (by kernel_rfl) ?_ _
                refine NoPanic.normal ?_
                go_wp2_with fail
                go_meet
                case rel =>
                  exact ⟨v2.heap.size, v0.heap.size, AR, cR, AQ, cQ, rfl, rfl, by omega, by omega, by omega, hA, hN, hR, hQ, hDIF, hHeld⟩
              exact AllReadyH.nil
            exact AllReadyH.nil
          exact AllReadyH.nil
        exact AllReadyH.nil
      refine AllReadyH.cons (o := ⟨some 4, _, _, _, _, _⟩) rfl (fun K hK => ?_) ?_
      · go_simp
        refine hK.out _ _ (hHeld.alloc hHeld.size _) (fun hHeld => ?_)
        clear hK K
        have lN := hN.lt
        refine any_named (fun W => Below W0.heap.size W0 W ∧ Blk W v1.heap.size TD [.slice none 0 0, .int .i64 0, .int .i64 0] ∧ Blk W v0.heap.size TD [.slice none 0 0, .int .i64 0, .int .i64 0]) ⟨hHeld, by (repeat' (first | (with_reducible refine BlkP.Blk.drew ?_) | (with_reducible refine BlkP.Blk.drewN ?_ _) | (with_reducible refine BlkP.Blk.setAt (us := ?_) (by first | omega | (simp; done) | (simp; omega)) rfl ?_ ?_) | (with_reducible refine BlkP.Blk.otherAt ?_ (by first | omega | (simp; done) | (simp; omega))) | (with_reducible refine BlkP.Blk.newA' (by first | omega | (simp; done) | (simp; omega)) rfl) | (with_reducible refine BlkP.Blk.alloc ?_ _) | (exact rfl))), by (repeat' (first | (with_reducible exact hN) | (with_reducible refine BlkP.Blk.drew ?_) | (with_reducible refine BlkP.Blk.drewN ?_ _) | (with_reducible refine BlkP.Blk.setAt (us := ?_) (by first | omega | (simp; done) | (simp; omega)) rfl ?_ ?_) | (with_reducible refine BlkP.Blk.otherAt ?_ (by first | omega | (simp; done) | (simp; omega))) | (with_reducible refine BlkP.Blk.newA' (by first | omega | (simp; done) | (simp; omega)) rfl) | (with_reducible refine BlkP.Blk.alloc ?_ _) | (exact rfl)))⟩ ?_
        clear hHeld hN
        rintro v2 ⟨hHeld, hA, hN⟩
        have hSv2 := hHeld.size
        refine wpAnyH_ready (rs := [1]) (by kernel_rfl) (by simp) ?_
        refine AllReadyH.cons (o := ⟨some 10, _, _, _, _, _⟩) rfl (fun K hK => ?_) ?_
        · have hHeld0 := hHeld.size
          go_simp
          refine (Next_c (n := n) (HT.out.below (below_t HB0.out hHeld))).mono ?_
          rintro e wf ⟨vf, rfl, hof, hbf⟩
          rw [HL.out] at hof
          obtain ⟨AR, cR, rfl, _, _, _⟩ := hof.form HK.out
          go_wp2_with fail
          refine hK.out _ _ (below_t hHeld hbf) (fun hHeld => ?_)
          clear hK K
          refine any_named (fun W => Below W0.heap.size W0 W ∧ Blk W v1.heap.size TD [.slice none 0 0, .int .i64 0, .int .i64 0] ∧ Blk W v0.heap.size TD [.slice none 0 0, .int .i64 0, .int .i64 0] ∧ RowG.Own encX TX W W0.heap.size (.slice AR k cR) l) ⟨hHeld, hA.below hbf, hN.below hbf, hof.mono (show W0.heap.size ≤ _ from hHeld0)⟩ ?_
          clear hHeld hA hN
          rintro v3 ⟨hHeld, hA, hN, hR⟩
          have hSv3 := hHeld.size
          clear hof hbf
          refine wpAnyH_ready (rs := [3]) (by kernel_rfl) (by simp) ?_
          refine AllReadyH.cons (o := ⟨some 12, _, _, _, _, _⟩) rfl (fun K hK => ?_) ?_
          · have hHeld0 := hHeld.size
            go_simp
            refine (Next_c (n := n) (HT.out.below (below_t HB0.out hHeld))).mono ?_
            rintro e wf ⟨vf, rfl, hof, hbf⟩
            rw [HL.out] at hof
            obtain ⟨AQ, cQ, rfl, _, _, _⟩ := hof.form HK.out
            have hDIF : ∀ g, (Value.slice AR k cR).ownBlock = some g → (Value.slice AQ k cQ).ownBlock ≠ some g := fun g h1 h2 => absurd (Nat.lt_of_lt_of_le (hR.ge g h1).2 (hof.ge g h2).1) (Nat.lt_irrefl _)
            go_wp2_with fail
            refine hK.out _ _ (below_t hHeld hbf) (fun hHeld => ?_)
            clear hK K
            refine any_named (fun W => Below W0.heap.size W0 W ∧ Blk W v1.heap.size TD [.slice none 0 0, .int .i64 0, .int .i64 0] ∧ Blk W v0.heap.size TD [.slice none 0 0, .int .i64 0, .int .i64 0] ∧ RowG.Own encX TX W W0.heap.size (.slice AR k cR) l ∧ RowG.Own encX TX W W0.heap.size (.slice AQ k cQ) l) ⟨hHeld, hA.below hbf, hN.below hbf, hR.below hbf, hof.mono (show W0.heap.size ≤ _ from hHeld0)⟩ ?_
            clear hHeld hA hN hR
            rintro v4 ⟨hHeld, hA, hN, hR, hQ⟩
            have hSv4 := hHeld.size
            clear hof hbf
            refine wpAnyH_ready (rs := [6]) (by kernel_rfl) (by simp) ?_
            refine AllReadyH.cons (o := ⟨none, _, _, _, _, _⟩) rfl (fun K hK => ?_) ?_
            · have e0 := hA.cell (i := 0) (v := .slice none 0 0) rfl
              have f0 := hA.frozen 0
              have e1 := hA.cell (i := 1) (v := .int .i64 0) rfl
              have f1 := hA.frozen 1
              have e2 := hA.cell (i := 2) (v := .int .i64 0) rfl
              have f2 := hA.frozen 2
              have lA := hA.lt
              have lN := hN.lt
              go_simp
              refine hK.out _ _ (by (repeat' (first | (with_reducible exact Below.refl _ _) | (with_reducible refine Below.setCell ?_ (by (first | omega | (simp; done) | (simp; omega))) _) | (with_reducible refine Below.alloc ?_ (by (first | omega | (simp; done) | (simp; omega))) _) | (with_reducible refine Below.drew ?_) | (with_reducible refine below_drewN ?_ _) | (with_reducible refine Below.trans ?_ (Below.mono hHeld (by (first | omega | (simp; done) | (simp; omega)))))))) (fun hHeld => ?_)
              clear hK K
              clear e0 e1 e2 f0 f1 f2
              refine any_named (fun W => Below W0.heap.size W0 W ∧ Blk W v1.heap.size TD [.slice AR k cR, .int .i64 0, .int .i64 0] ∧ Blk W v0.heap.size TD [.slice none 0 0, .int .i64 0, .int .i64 0] ∧ RowG.Own encX TX W W0.heap.size (.slice AR k cR) l ∧ RowG.Own encX TX W W0.heap.size (.slice AQ k cQ) l) ⟨hHeld, by (repeat' (first | (with_reducible exact hA) | (with_reducible refine BlkP.Blk.drew ?_) | (with_reducible refine BlkP.Blk.drewN ?_ _) | (with_reducible refine BlkP.Blk.setAt (us := ?_) (by first | omega | (simp; done) | (simp; omega)) rfl ?_ ?_) | (with_reducible refine BlkP.Blk.otherAt ?_ (by first | omega | (simp; done) | (simp; omega))) | (with_reducible refine BlkP.Blk.newA' (by first | omega | (simp; done) | (simp; omega)) rfl) | (with_reducible refine BlkP.Blk.alloc ?_ _) | (exact rfl))), by (repeat' (first | (with_reducible exact hN) | (with_reducible refine BlkP.Blk.drew ?_) | (with_reducible refine BlkP.Blk.drewN ?_ _) | (with_reducible refine BlkP.Blk.setAt (us := ?_) (by first | omega | (simp; done) | (simp; omega)) rfl ?_ ?_) | (with_reducible refine BlkP.Blk.otherAt ?_ (by first | omega | (simp; done) | (simp; omega))) | (with_reducible refine BlkP.Blk.newA' (by first | omega | (simp; done) | (simp; omega)) rfl) | (with_reducible refine BlkP.Blk.alloc ?_ _) | (exact rfl))), by first | exact own_set3 hR hA | exact own_set3 hR.drew hA.drew, by first | exact own_set3 hQ hA | exact own_set3 hQ.drew hA.drew⟩ ?_
              clear hHeld hA hN hR hQ
              rintro v5 ⟨hHeld, hA, hN, hR, hQ⟩
              have hSv5 := hHeld.size
              refine wpAnyH_ready (rs := [7]) (by kernel_rfl) (by simp) ?_
              refine AllReadyH.cons (o := ⟨none, _, _, _, _, _⟩) rfl (fun K hK => ?_) ?_
              · have e0 := hN.cell (i := 0) (v := .slice none 0 0) rfl
                have f0 := hN.frozen 0
                have e1 := hN.cell (i := 1) (v := .int .i64 0) rfl
                have f1 := hN.frozen 1
                have e2 := hN.cell (i := 2) (v := .int .i64 0) rfl
                have f2 := hN.frozen 2
                have lA := hA.lt
                have lN := hN.lt
                go_simp
                refine hK.out _ _ (by (repeat' (first | (with_reducible exact Below.refl _ _) | (with_reducible refine Below.setCell ?_ (by (first | omega | (simp; done) | (simp; omega))) _) | (with_reducible refine Below.alloc ?_ (by (first | omega | (simp; done) | (simp; omega))) _) | (with_reducible refine Below.drew ?_) | (with_reducible refine below_drewN ?_ _) | (with_reducible refine Below.trans ?_ (Below.mono hHeld (by (first | omega | (simp; done) | (simp; omega)))))))) (fun hHeld => ?_)
                clear hK K
                clear e0 e1 e2 f0 f1 f2
                refine any_named (fun W => Below W0.heap.size W0 W ∧ Blk W v1.heap.size TD [.slice AR k cR, .int .i64 0, .int .i64 0] ∧ Blk W v0.heap.size TD [.slice AQ k cQ, .int .i64 0, .int .i64 0] ∧ RowG.Own encX TX W W0.heap.size (.slice AR k cR) l ∧ RowG.Own encX TX W W0.heap.size (.slice AQ k cQ) l) ⟨hHeld, by (repeat' (first | (with_reducible exact hA) | (with_reducible refine BlkP.Blk.drew ?_) | (with_reducible refine BlkP.Blk.drewN ?_ _) | (with_reducible refine BlkP.Blk.setAt (us := ?_) (by first | omega | (simp; done) | (simp; omega)) rfl ?_ ?_) | (with_reducible refine BlkP.Blk.otherAt ?_ (by first | omega | (simp; done) | (simp; omega))) | (with_reducible refine BlkP.Blk.newA' (by first | omega | (simp; done) | (simp; omega)) rfl) | (with_reducible refine BlkP.Blk.alloc ?_ _) | (exact rfl))), by (repeat' (first | (with_reducible exact hN) | (with_reducible refine BlkP.Blk.drew ?_) | (with_reducible refine BlkP.Blk.drewN ?_ _) | (with_reducible refine BlkP.Blk.setAt (us := ?_) (by first | omega | (simp; done) | (simp; omega)) rfl ?_ ?_) | (with_reducible refine BlkP.Blk.otherAt ?_ (by first | omega | (simp; done) | (simp; omega))) | (with_reducible refine BlkP.Blk.newA' (by first | omega | (simp; done) | (simp; omega)) rfl) | (with_reducible refine BlkP.Blk.alloc ?_ _) | (exact rfl))), by first | exact own_set3 hR hN | exact own_set3 hR.drew hN.drew, by first | exact own_set3 hQ hN | exact own_set3 hQ.drew hN.drew⟩ ?_
                clear hHeld hA hN hR hQ
                rintro v6 ⟨hHeld, hA, hN, hR, hQ⟩
                have hSv6 := hHeld.size
                refine wpAnyH_done (by kernel_rfl) ?_ _
                refine NoPanic.normal ?_
                go_wp2_with fail
                go_meet
                case rel =>
                  exact ⟨v1.heap.size, v0.heap.size, AR, cR, AQ, cQ, rfl, rfl, by omega, by omega, by omega, hA, hN, hR, hQ, hDIF, hHeld⟩
              exact AllReadyH.nil
            exact AllReadyH.nil
          exact AllReadyH.nil
        exact AllReadyH.nil
      exact AllReadyH.nil
    exact AllReadyH.nil
  case rest =>
    obtain ⟨bA, bN, AR, cR, AQ, cQ, rfl, rfl, hne, sA, sN, hA, hN, hR, hQ, hDIF, hbc⟩ := hcut
    have HDIF := Lib.hid hDIF
    have HBC := Lib.hid hbc
    have HBW := Lib.hid (below_t HB0.out hbc)
    have HA := Lib.hid hA
    have HN := Lib.hid hN
    have HRO := Lib.hid hR
    have HQO := Lib.hid hQ
    have HRW := Lib.hid (HR0.out.below hbc)
    have HDW := Lib.hid (HD0.out.below hbc)
    have a0 := hA.cell (i := 0) rfl
    have a1 := hA.cell (i := 1) rfl
    have a2 := hA.cell (i := 2) rfl
    have b0 := hN.cell (i := 0) rfl
    have b1 := hN.cell (i := 1) rfl
    have b2 := hN.cell (i := 2) rfl
    have d0 := HDW.out.cell (i := 0) rfl
    have d1 := HDW.out.cell (i := 1) rfl
    have d2 := HDW.out.cell (i := 2) rfl
    clear hA hN hR hQ hDIF hbc
    go_wp2_with fail
    refine (rsame_c HRO.out.rd HRW.out HK.out HK4.out).mono ?_
    rintro e x1 ⟨rfl, hb1⟩
    have HX1 := Lib.hid hb1
    have b0 := (HN.out.below hb1).cell (i := 0) rfl
    have b1 := (HN.out.below hb1).cell (i := 1) rfl
    have b2 := (HN.out.below hb1).cell (i := 2) rfl
    have d0 := (HDW.out.below hb1).cell (i := 0) rfl
    have d1 := (HDW.out.below hb1).cell (i := 1) rfl
    have d2 := (HDW.out.below hb1).cell (i := 2) rfl
    clear hb1
    go_wp2_with fail
    refine (rsame_c (HQO.out.rd.below HX1.out) (HRW.out.below HX1.out) HK.out HK4.out).mono ?_
    rintro e x2 ⟨rfl, hb2⟩
    have HX2 := Lib.hid (below_t HX1.out hb2)
    clear hb2 a0 a1 a2 b0 b1 b2 d0 d1 d2
    have HA2 := Lib.hid (HA.out.below HX2.out)
    have HRO2 := Lib.hid (HRO.out.below HX2.out)
    have hx2 := HX2.out.size
    have HNA := Lib.hid (own_ne HRO2.out HA2.out (by decide))
    have HNN := Lib.hid (own_ne HRO2.out (HN.out.below HX2.out) (by decide))
    have HND := Lib.hid (own_ne HRO2.out (HDW.out.below HX2.out) (by decide))
    go_wp2_with fail
    go_loopw [6] (fun v6 wr => ∃ (j : Nat) (l2 : List (Nat × Cl)), v6 = .int .i64 (j : Nat) ∧ j ≤ k ∧ l2.length = k ∧ RowG.Own encX TX wr W0.heap.size (.slice AR k cR) l2 ∧ Fr (fun q => (Value.slice AR k cR).ownBlock = some q) x2 wr) (fun v _ => k - (intOf v).toNat)
    case atStart => exact ⟨0, l, rfl, by omega, HK.out, HRO2.out, Fr.refl _ _⟩
    case round =>
      obtain ⟨j, l2, rfl, hj, hl2, hrow, hfr⟩ := hrel
      have HL2 := Lib.hid hl2
      have HROW := Lib.hid hrow
      have HFR := Lib.hid hfr
      have hAr := hfr.blk HA2.out HNA.out
      have a0 := hAr.cell (i := 0) rfl
      by_cases hjl : j < k
      · have hjI : (j : Int) < (k : Int) := by omega
        have hj1 : (j : Int) < 100 := by have := HK4.out; omega
        have hj2 : j < 100 := by have := HK4.out; omega
        have HWR := Lib.hid (show wrap64 ((j : Int) + 1) = ((j + 1 : Nat) : Int) by rw [wr64 (by omega) (by omega)]; omega)
        obtain ⟨A9, c9, hv9, _, _, hgg⟩ := hrow.form (n := k) hl2
        injection hv9 with h91 h92 h93
        subst h91 h93
        obtain ⟨g, hg, hg1, hg2⟩ := hgg (by omega)
        subst hg
        obtain ⟨⟨d, kk, mm⟩, hx⟩ : ∃ x, l2[j]? = some x := ⟨_, List.getElem?_eq_getElem (by omega)⟩
        have HX := Lib.hid hx
        have p0 : wr.cell? ⟨g, j * 3, none⟩ = some (.int .i64 (d : Int)) := hrow.cell (i := j) (j := 0) hx rfl
        have f0 := hrow.frozen (j * 3)
        clear hrow hfr hx hgg hl2 hAr
        go_wp2_with fail
        go_roundw
        case rel =>
          have hst := HROW.out.store (i := j) (j := 0) (y := (77, (kk, mm))) (u := .int .i64 77) HX.out (by decide) rfl
          refine ⟨j + 1, l2.set j (77, (kk, mm)), by first | rfl | rw [HWR.out], by omega, by rw [List.length_set]; exact HL2.out, hst.1, ?_⟩
          exact HFR.out.trans (Fr.grown (S := fun q => some g = some q) hst.2 (fun i hi => hi)) (fun i hi => .inl hi)
        case measure =>
          simp only [intOf]
          omega
      · have hjI : ¬ (j : Int) < (k : Int) := by omega
        have hN9 := hfr.blk (HN.out.below HX2.out) HNN.out
        have hD9 := hfr.blk (HDW.out.below HX2.out) HND.out
        have HQ9 := Lib.hid (hfr.own (HQO.out.below HX2.out) (fun g hg hs => HDIF.out g hs hg)).rd
        have HBF := Lib.hid (show Below W0.heap.size x2 wr from hfr.toBelow (Nat.le_trans HBC.out.size hx2) (fun i hi => (HRO2.out.ge i hi).1))
        have HB9 := Lib.hid (show Below w.heap.size w wr from (below_t HBW.out HX2.out).trans (HBF.out.mono HB0.out.size))
        have b0 := hN9.cell (i := 0) rfl
        have b1 := hN9.cell (i := 1) rfl
        have b2 := hN9.cell (i := 2) rfl
        have d0 := hD9.cell (i := 0) rfl
        have d1 := hD9.cell (i := 1) rfl
        have d2 := hD9.cell (i := 2) rfl
        have hW9 : Rd encX wr (.slice A0 k c0) l := by
          have hz := HBC.out.size
          obtain ⟨A', c', he, q1, q2, hne9⟩ := HR0.out
          refine ⟨A', c', he, q1, q2, fun h0 => ?_⟩
          obtain ⟨b, o, hA', hlt, hcs⟩ := hne9 h0
          have hw : Below W0.heap.size W0 wr := (HBC.out.trans (HX2.out.mono hz)).trans HBF.out
          exact ⟨b, o, hA', Nat.lt_of_lt_of_le hlt hw.size, fun i x hx j u hu => (hw.cell (p := ⟨b, _, none⟩) hlt).trans (hcs i x hx j u hu)⟩
        have HW9 := Lib.hid hW9
        clear hrow hfr hl2 hAr hN9 hD9 hW9
        go_wp2_with fail
        refine (rsame_c HQ9.out HW9.out HK.out HK4.out).mono ?_
        rintro e x3 ⟨rfl, hb3⟩
        have HX3 := Lib.hid (below_t HB9.out hb3)
        clear hb3 b0 b1 b2 d0 d1 d2 a0
        go_wp2_with fail
        refine (awake_c (HT.out.below HX3.out)).mono ?_
        rintro e x4 ⟨rfl, hb4⟩
        have HX4 := Lib.hid (below_t HX3.out hb4)
        clear hb4
        go_wp2_with fail
        go_ret
        exact ⟨rfl, HX4.out⟩
end FallW
end Go.Proofs.YtlcnhommlcdilaaDoor
