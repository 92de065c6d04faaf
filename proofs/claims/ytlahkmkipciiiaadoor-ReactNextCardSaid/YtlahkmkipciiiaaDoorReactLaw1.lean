/-
  ReactNext: of every kind its delay; of everything that is near what is done, in new memory.
-/
import Derived.Deep.CutRange
import Derived.Test.YtlahkmkipciiiaaDoorReactOver
namespace Go.Proofs.YtlahkmkipciiiaaDoor
open Go.RowKit
set_option linter.unusedVariables false
set_option linter.unusedSimpArgs false
namespace ReactW
open BlkP RowG FrS PushG CellsW NearW BurnP BurnW ReactP DeedW

/-- Two deeds that were answered, each in its block. -/
def CutD (k : Nat) (ag dl : Int) (l : List (Nat × Cl)) (W0 : World) (s4 s5 : Value) (W : World) : Prop :=
  ∃ bA bN AR cR AQ cQ, s4 = .pointer (some ⟨bA, 0, none⟩) ∧ s5 = .pointer (some ⟨bN, 0, none⟩) ∧ bA ≠ bN ∧ W0.heap.size ≤ bA ∧ W0.heap.size ≤ bN ∧
    Blk W bA TD [.slice AR k cR, .int .i64 ag, .int .i64 dl] ∧ Blk W bN TD [.slice AQ k cQ, .int .i64 ag, .int .i64 dl] ∧ RowG.Own encX TX W W0.heap.size (.slice AR k cR) l ∧ RowG.Own encX TX W W0.heap.size (.slice AQ k cQ) l ∧
    (∀ g, (Value.slice AR k cR).ownBlock = some g → (Value.slice AQ k cQ).ownBlock ≠ some g) ∧ Below W0.heap.size W0 W
set_option maxRecDepth 100000 in
set_option maxHeartbeats 32000000 in
theorem law_next {w : World} (hT : KindW.Tab w) (n : Nr) {d : Nat} (h8 : n.s.1 < 256) (hd : n.dr = (d : Int)) (hd2 : d ≤ 18446744073709551615) {q : Nat} (hq8 : q < 256) : Calls Tryd.prog 3 #[nv n, .int .u8 (q : Int)] w fun e w' => e = .returned (.bool true) ∧ Below w.heap.size w w' := by
  have HT := Lib.hid hT
  have HDR := Lib.hid hd
  have H8 := Lib.hid h8
  have HQ8 := Lib.hid hq8
  obtain ⟨⟨l, ag, dl⟩, hD⟩ : ∃ D, ndeed n d = D := ⟨_, rfl⟩
  have HL := Lib.hid hD
  obtain ⟨k, hk⟩ : ∃ k, l.length = k := ⟨_, rfl⟩
  have HK := Lib.hid hk
  have HZL := Lib.hid (show (zl l).length = k from by rw [zl_len, hk])
  have HK4 := Lib.hid (show k ≤ 100 from by have := (deed_fine n d).1; rw [hD] at this; simp only at this; omega)
  have HK5 := Lib.hid (show k ≤ 140737488355328 from by have := HK4.out; omega)
  obtain ⟨⟨k0, l0⟩, hs0⟩ : ∃ c, n.s = c := ⟨_, rfl⟩
  have HS0 := Lib.hid hs0
  have HK08 := Lib.hid (show k0 < 256 from by rw [hs0] at h8; exact h8)
  obtain ⟨x1', hx1'⟩ : ∃ x, delay q = x := ⟨_, rfl⟩
  obtain ⟨x2', hx2'⟩ : ∃ x, delay k0 = x := ⟨_, rfl⟩
  have HDE1 := Lib.hid hx1'
  have HDE2 := Lib.hid hx2'
  clear hT hD hk h8 hq8 hd hs0 hx1' hx2'
  go_enter Tryd.func3, Tryd.ntmps3
  go_wp2_with ((with_reducible refine at_slot 2 ?_); refine Classical.byContradiction (fun hG => ?_))
  refine hG ?_
  clear hG
  refine wp_boxN rfl (.tmp 0) rfl rfl ?_
  intro w1 h1 hb1 hz1
  obtain ⟨s, hs⟩ : ∃ s, w.heap.size = s := ⟨_, rfl⟩
  rw [hs] at h1 hz1
  rw [hs]
  have HB1 := Lib.hid hb1
  have H1 := Lib.hid h1
  have HS := Lib.hid hs
  clear h1 hb1 hz1 hs
  go_wp2_with ((with_reducible refine at_slot 9 ?_); refine Classical.byContradiction (fun hG => ?_))
  refine hG ?_
  clear hG
  refine wp_loadN rfl (.tmp 2) rfl rfl (n := n) H1.out ?_
  go_wp2_with fail
  refine (rNext_q HDR.out hd2 HL.out).mono ?_
  rintro e w3 ⟨v, rfl, ho, hb3⟩
  obtain ⟨A0, c0, rfl, _, _, _⟩ := ho.form HK.out
  have HB3 := Lib.hid (below_t HB1.out hb3)
  have H3 := Lib.hid (H1.out.below hb3)
  have HR3 := Lib.hid ho.rd
  have hz3 := HB3.out.size
  clear ho hb3
  obtain ⟨D, hD⟩ : ∃ D, w3.heap.size = D := ⟨_, rfl⟩
  go_wp2_with fail
  refine HeldP.wp_named (S := fun W => Below w3.heap.size w3 W ∧ Blk W D TD [.slice A0 k c0, .int .i64 ag, .int .i64 dl]) ⟨by (repeat' (first | (with_reducible exact Below.refl _ _) | (with_reducible refine Below.setCell ?_ (by (first | omega | (simp; done) | (simp; omega))) _) | (with_reducible refine Below.alloc ?_ (by (first | omega | (simp; done) | (simp; omega))) _) | (with_reducible refine Below.drew ?_) | (with_reducible refine below_drewN ?_ _))), by subst hD; (repeat' (first | (with_reducible refine BlkP.Blk.drew ?_) | (with_reducible refine BlkP.Blk.drewN ?_ _) | (with_reducible refine BlkP.Blk.setAt (us := ?_) (by first | omega | (simp; done) | (simp; omega)) rfl ?_ ?_) | (with_reducible refine BlkP.Blk.otherAt ?_ (by first | omega | (simp; done) | (simp; omega))) | (with_reducible refine BlkP.Blk.newA' (by first | omega | (simp; done) | (simp; omega)) rfl) | (with_reducible refine BlkP.Blk.alloc ?_ _) | (exact rfl)))⟩ ?_
  rintro W0 ⟨hb0, hd0⟩
  try rw [hD]
  have HB0 := Lib.hid (below_t HB3.out hb0)
  have H0 := Lib.hid (H3.out.below hb0)
  have HR0 := Lib.hid (HR3.out.below hb0)
  have HD0 := Lib.hid hd0
  clear hb0 hd0 hz3 hD
  go_cut [6, 7] from 11 to 14 (fun s4 s5 W => CutD k ag dl l W0 s4 s5 W)
  case first =>
    refine wp_region_noPanic ?_
    refine wp_region_held_drew (S := fun W => Below W0.heap.size W0 W) (by kernel_rfl) ((Below.refl _ W0).drew) (fun hHeld => ?_)
    refine wpAnyH_take (i := 0) (oi := ⟨some 11, _, _, _, _, _⟩) (v := nv n) rfl (by kernel_rfl) (by kernel_rfl) (by kernel_rfl) (fun _ _ _ h => h) (Or.inl ⟨by rfl, fun W hSW => yieldN rfl rfl (H0.out.below hSW)⟩) hHeld ?_
    simp only [Act.put, List.setIfInBounds_toArray, List.set_cons_zero, List.set_cons_succ]
    refine wpAnyH_take (i := 2) (oi := ⟨some 13, _, _, _, _, _⟩) (v := nv n) rfl (by kernel_rfl) (by kernel_rfl) (by kernel_rfl) (fun _ _ _ h => h) (Or.inl ⟨by rfl, fun W hSW => yieldN rfl rfl (H0.out.below hSW)⟩) hHeld ?_
    simp only [Act.put, List.setIfInBounds_toArray, List.set_cons_zero, List.set_cons_succ]
    refine any_named (fun W => Below W0.heap.size W0 W) hHeld ?_
    clear hHeld
    rintro v0 hHeld
    have hSv0 := hHeld.size
    refine wpAnyH_ready (rs := [1, 4, 5]) (by kernel_rfl) (by simp) ?_
    refine AllReadyH.cons (o := ⟨some 12, _, _, _, _, _⟩) rfl (fun K hK => ?_) ?_
    · have hHeld0 := hHeld.size
      go_simp
      refine (Next_q (HT.out.below (below_t HB0.out hHeld)) H8.out HDR.out hd2 HL.out).mono ?_
      rintro e wf ⟨vf, rfl, hof, hbf⟩
      obtain ⟨AR, cR, rfl, _, _, _⟩ := hof.form HK.out
      go_wp2_with fail
      refine hK.out _ _ (below_t hHeld hbf) (fun hHeld => ?_)
      clear hK K
      refine any_named (fun W => Below W0.heap.size W0 W ∧ RowG.Own encX TX W W0.heap.size (.slice AR k cR) l) ⟨hHeld, hof.mono (show W0.heap.size ≤ _ from hHeld0)⟩ ?_
      clear hHeld
      rintro v1 ⟨hHeld, hR⟩
      have hSv1 := hHeld.size
      clear hof hbf
      refine wpAnyH_ready (rs := [3, 4, 5]) (by kernel_rfl) (by simp) ?_
      refine AllReadyH.cons (o := ⟨some 14, _, _, _, _, _⟩) rfl (fun K hK => ?_) ?_
      · have hHeld0 := hHeld.size
        go_simp
        refine (Next_q (HT.out.below (below_t HB0.out hHeld)) H8.out HDR.out hd2 HL.out).mono ?_
        rintro e wf ⟨vf, rfl, hof, hbf⟩
        obtain ⟨AQ, cQ, rfl, _, _, _⟩ := hof.form HK.out
        have hDIF : ∀ g, (Value.slice AR k cR).ownBlock = some g → (Value.slice AQ k cQ).ownBlock ≠ some g := fun g h1 h2 => absurd (Nat.lt_of_lt_of_le (hR.ge g h1).2 (hof.ge g h2).1) (Nat.lt_irrefl _)
        go_wp2_with fail
        refine hK.out _ _ (below_t hHeld hbf) (fun hHeld => ?_)
        clear hK K
        refine any_named (fun W => Below W0.heap.size W0 W ∧ RowG.Own encX TX W W0.heap.size (.slice AR k cR) l ∧ RowG.Own encX TX W W0.heap.size (.slice AQ k cQ) l) ⟨hHeld, hR.below hbf, hof.mono (show W0.heap.size ≤ _ from hHeld0)⟩ ?_
        clear hHeld hR
        rintro v2 ⟨hHeld, hR, hQ⟩
        have hSv2 := hHeld.size
        clear hof hbf
        refine wpAnyH_ready (rs := [4, 5]) (by kernel_rfl) (by simp) ?_
        refine AllReadyH.cons (o := ⟨some 6, _, _, _, _, _⟩) rfl (fun K hK => ?_) ?_
        · go_simp
          refine hK.out _ _ (hHeld.alloc hHeld.size _) (fun hHeld => ?_)
          clear hK K
          refine any_named (fun W => Below W0.heap.size W0 W ∧ Blk W v2.heap.size TD [.slice none 0 0, .int .i64 0, .int .i64 0] ∧ RowG.Own encX TX W W0.heap.size (.slice AR k cR) l ∧ RowG.Own encX TX W W0.heap.size (.slice AQ k cQ) l) ⟨hHeld, by (repeat' (first | (with_reducible refine BlkP.Blk.drew ?_) | (with_reducible refine BlkP.Blk.drewN ?_ _) | (with_reducible refine BlkP.Blk.setAt (us := ?_) (by first | omega | (simp; done) | (simp; omega)) rfl ?_ ?_) | (with_reducible refine BlkP.Blk.otherAt ?_ (by first | omega | (simp; done) | (simp; omega))) | (with_reducible refine BlkP.Blk.newA' (by first | omega | (simp; done) | (simp; omega)) rfl) | (with_reducible refine BlkP.Blk.alloc ?_ _) | (exact rfl))), hR.below (by (repeat' (first | (with_reducible exact Below.refl _ _) | (with_reducible refine Below.setCell ?_ (by (first | omega | (simp; done) | (simp; omega))) _) | (with_reducible refine Below.alloc ?_ (by (first | omega | (simp; done) | (simp; omega))) _) | (with_reducible refine Below.drew ?_) | (with_reducible refine below_drewN ?_ _)))), hQ.below (by (repeat' (first | (with_reducible exact Below.refl _ _) | (with_reducible refine Below.setCell ?_ (by (first | omega | (simp; done) | (simp; omega))) _) | (with_reducible refine Below.alloc ?_ (by (first | omega | (simp; done) | (simp; omega))) _) | (with_reducible refine Below.drew ?_) | (with_reducible refine below_drewN ?_ _))))⟩ ?_
          clear hHeld hR hQ
          rintro v3 ⟨hHeld, hA, hR, hQ⟩
          have hSv3 := hHeld.size
          refine wpAnyH_ready (rs := [5]) (by kernel_rfl) (by simp) ?_
          refine AllReadyH.cons (o := ⟨some 7, _, _, _, _, _⟩) rfl (fun K hK => ?_) ?_
          · go_simp
            refine hK.out _ _ (hHeld.alloc hHeld.size _) (fun hHeld => ?_)
            clear hK K
            have lA := hA.lt
            refine any_named (fun W => Below W0.heap.size W0 W ∧ Blk W v2.heap.size TD [.slice none 0 0, .int .i64 0, .int .i64 0] ∧ Blk W v3.heap.size TD [.slice none 0 0, .int .i64 0, .int .i64 0] ∧ RowG.Own encX TX W W0.heap.size (.slice AR k cR) l ∧ RowG.Own encX TX W W0.heap.size (.slice AQ k cQ) l) ⟨hHeld, by (repeat' (first | (with_reducible exact hA) | (with_reducible refine BlkP.Blk.drew ?_) | (with_reducible refine BlkP.Blk.drewN ?_ _) | (with_reducible refine BlkP.Blk.setAt (us := ?_) (by first | omega | (simp; done) | (simp; omega)) rfl ?_ ?_) | (with_reducible refine BlkP.Blk.otherAt ?_ (by first | omega | (simp; done) | (simp; omega))) | (with_reducible refine BlkP.Blk.newA' (by first | omega | (simp; done) | (simp; omega)) rfl) | (with_reducible refine BlkP.Blk.alloc ?_ _) | (exact rfl))), by (repeat' (first | (with_reducible refine BlkP.Blk.drew ?_) | (with_reducible refine BlkP.Blk.drewN ?_ _) | (with_reducible refine BlkP.Blk.setAt (us := ?_) (by first | omega | (simp; done) | (simp; omega)) rfl ?_ ?_) | (with_reducible refine BlkP.Blk.otherAt ?_ (by first | omega | (simp; done) | (simp; omega))) | (with_reducible refine BlkP.Blk.newA' (by first | omega | (simp; done) | (simp; omega)) rfl) | (with_reducible refine BlkP.Blk.alloc ?_ _) | (exact rfl))), hR.below (by (repeat' (first | (with_reducible exact Below.refl _ _) | (with_reducible refine Below.setCell ?_ (by (first | omega | (simp; done) | (simp; omega))) _) | (with_reducible refine Below.alloc ?_ (by (first | omega | (simp; done) | (simp; omega))) _) | (with_reducible refine Below.drew ?_) | (with_reducible refine below_drewN ?_ _)))), hQ.below (by (repeat' (first | (with_reducible exact Below.refl _ _) | (with_reducible refine Below.setCell ?_ (by (first | omega | (simp; done) | (simp; omega))) _) | (with_reducible refine Below.alloc ?_ (by (first | omega | (simp; done) | (simp; omega))) _) | (with_reducible refine Below.drew ?_) | (with_reducible refine below_drewN ?_ _))))⟩ ?_
            clear hHeld hA hR hQ
            rintro v4 ⟨hHeld, hA, hN, hR, hQ⟩
            have hSv4 := hHeld.size
            refine wpAnyH_ready (rs := [6]) (by kernel_rfl) (by simp) ?_
            refine AllReadyH.cons (o := ⟨none, _, _, _, _, _⟩) rfl (fun K hK => ?_) ?_
            · have e0 := hA.cell (i := 0) (v := .slice none 0 0) rfl
              have f0 := hA.frozen 0
              have e1 := hA.cell (i := 1) (v := .int .i64 0) rfl
              have f1 := hA.frozen 1
              have e2 := hA.cell (i := 2) (v := .int .i64 0) rfl
              have f2 := hA.frozen 2
              have lA := hA.lt
              have lN := hN.lt
              go_simp
              refine hK.out _ _ (by (repeat' (first | (with_reducible exact Below.refl _ _) | (with_reducible refine Below.setCell ?_ (by (first | omega | (simp; done) | (simp; omega))) _) | (with_reducible refine Below.alloc ?_ (by (first | omega | (simp; done) | (simp; omega))) _) | (with_reducible refine Below.drew ?_) | (with_reducible refine below_drewN ?_ _) | (with_reducible refine Below.trans ?_ (Below.mono hHeld (by (first | omega | (simp; done) | (simp; omega)))))))) (fun hHeld => ?_)
              clear hK K
              clear e0 e1 e2 f0 f1 f2
              refine any_named (fun W => Below W0.heap.size W0 W ∧ Blk W v2.heap.size TD [.slice AR k cR, .int .i64 ag, .int .i64 dl] ∧ Blk W v3.heap.size TD [.slice none 0 0, .int .i64 0, .int .i64 0] ∧ RowG.Own encX TX W W0.heap.size (.slice AR k cR) l ∧ RowG.Own encX TX W W0.heap.size (.slice AQ k cQ) l) ⟨hHeld, by (repeat' (first | (with_reducible exact hA) | (with_reducible refine BlkP.Blk.drew ?_) | (with_reducible refine BlkP.Blk.drewN ?_ _) | (with_reducible refine BlkP.Blk.setAt (us := ?_) (by first | omega | (simp; done) | (simp; omega)) rfl ?_ ?_) | (with_reducible refine BlkP.Blk.otherAt ?_ (by first | omega | (simp; done) | (simp; omega))) | (with_reducible refine BlkP.Blk.newA' (by first | omega | (simp; done) | (simp; omega)) rfl) | (with_reducible refine BlkP.Blk.alloc ?_ _) | (exact rfl))), by (repeat' (first | (with_reducible exact hN) | (with_reducible refine BlkP.Blk.drew ?_) | (with_reducible refine BlkP.Blk.drewN ?_ _) | (with_reducible refine BlkP.Blk.setAt (us := ?_) (by first | omega | (simp; done) | (simp; omega)) rfl ?_ ?_) | (with_reducible refine BlkP.Blk.otherAt ?_ (by first | omega | (simp; done) | (simp; omega))) | (with_reducible refine BlkP.Blk.newA' (by first | omega | (simp; done) | (simp; omega)) rfl) | (with_reducible refine BlkP.Blk.alloc ?_ _) | (exact rfl))), by first | exact own_set3 hR hA | exact own_set3 hR.drew hA.drew, by first | exact own_set3 hQ hA | exact own_set3 hQ.drew hA.drew⟩ ?_
              clear hHeld hA hN hR hQ
              rintro v5 ⟨hHeld, hA, hN, hR, hQ⟩
              have hSv5 := hHeld.size
              refine wpAnyH_ready (rs := [7]) (by kernel_rfl) (by simp) ?_
              refine AllReadyH.cons (o := ⟨none, _, _, _, _, _⟩) rfl (fun K hK => ?_) ?_
              · have e0 := hN.cell (i := 0) (v := .slice none 0 0) rfl
                have f0 := hN.frozen 0
                have e1 := hN.cell (i := 1) (v := .int .i64 0) rfl
                have f1 := hN.frozen 1
                have e2 := hN.cell (i := 2) (v := .int .i64 0) rfl
                have f2 := hN.frozen 2
                have lA := hA.lt
                have lN := hN.lt
                go_simp
                refine hK.out _ _ (by (repeat' (first | (with_reducible exact Below.refl _ _) | (with_reducible refine Below.setCell ?_ (by (first | omega | (simp; done) | (simp; omega))) _) | (with_reducible refine Below.alloc ?_ (by (first | omega | (simp; done) | (simp; omega))) _) | (with_reducible refine Below.drew ?_) | (with_reducible refine below_drewN ?_ _) | (with_reducible refine Below.trans ?_ (Below.mono hHeld (by (first | omega | (simp; done) | (simp; omega)))))))) (fun hHeld => ?_)
                clear hK K
                clear e0 e1 e2 f0 f1 f2
                refine any_named (fun W => Below W0.heap.size W0 W ∧ Blk W v2.heap.size TD [.slice AR k cR, .int .i64 ag, .int .i64 dl] ∧ Blk W v3.heap.size TD [.slice AQ k cQ, .int .i64 ag, .int .i64 dl] ∧ RowG.Own encX TX W W0.heap.size (.slice AR k cR) l ∧ RowG.Own encX TX W W0.heap.size (.slice AQ k cQ) l) ⟨hHeld, by (repeat' (first | (with_reducible exact hA) | (with_reducible refine BlkP.Blk.drew ?_) | (with_reducible refine BlkP.Blk.drewN ?_ _) | (with_reducible refine BlkP.Blk.setAt (us := ?_) (by first | omega | (simp; done) | (simp; omega)) rfl ?_ ?_) | (with_reducible refine BlkP.Blk.otherAt ?_ (by first | omega | (simp; done) | (simp; omega))) | (with_reducible refine BlkP.Blk.newA' (by first | omega | (simp; done) | (simp; omega)) rfl) | (with_reducible refine BlkP.Blk.alloc ?_ _) | (exact rfl))), by (repeat' (first | (with_reducible exact hN) | (with_reducible refine BlkP.Blk.drew ?_) | (with_reducible refine BlkP.Blk.drewN ?_ _) | (with_reducible refine BlkP.Blk.setAt (us := ?_) (by first | omega | (simp; done) | (simp; omega)) rfl ?_ ?_) | (with_reducible refine BlkP.Blk.otherAt ?_ (by first | omega | (simp; done) | (simp; omega))) | (with_reducible refine BlkP.Blk.newA' (by first | omega | (simp; done) | (simp; omega)) rfl) | (with_reducible refine BlkP.Blk.alloc ?_ _) | (exact rfl))), by first | exact own_set3 hR hN | exact own_set3 hR.drew hN.drew, by first | exact own_set3 hQ hN | exact own_set3 hQ.drew hN.drew⟩ ?_
                clear hHeld hA hN hR hQ
                rintro v6 ⟨hHeld, hA, hN, hR, hQ⟩
                have hSv6 := hHeld.size
                refine wpAnyH_done (by kernel_rfl) ?_ _
                refine NoPanic.normal ?_
                go_wp2_with fail
                go_meet
                case rel =>
                  exact ⟨v2.heap.size, v3.heap.size, AR, cR, AQ, cQ, rfl, rfl, by omega, by omega, by omega, hA, hN, hR, hQ, hDIF, hHeld⟩
              exact AllReadyH.nil
            exact AllReadyH.nil
          exact AllReadyH.nil
        refine AllReadyH.cons (o := ⟨some 7, _, _, _, _, _⟩) rfl (fun K hK => ?_) ?_
        · go_simp
          refine hK.out _ _ (hHeld.alloc hHeld.size _) (fun hHeld => ?_)
          clear hK K
          refine any_named (fun W => Below W0.heap.size W0 W ∧ Blk W v2.heap.size TD [.slice none 0 0, .int .i64 0, .int .i64 0] ∧ RowG.Own encX TX W W0.heap.size (.slice AR k cR) l ∧ RowG.Own encX TX W W0.heap.size (.slice AQ k cQ) l) ⟨hHeld, by (repeat' (first | (with_reducible refine BlkP.Blk.drew ?_) | (with_reducible refine BlkP.Blk.drewN ?_ _) | (with_reducible refine BlkP.Blk.setAt (us := ?_) (by first | omega | (simp; done) | (simp; omega)) rfl ?_ ?_) | (with_reducible refine BlkP.Blk.otherAt ?_ (by first | omega | (simp; done) | (simp; omega))) | (with_reducible refine BlkP.Blk.newA' (by first | omega | (simp; done) | (simp; omega)) rfl) | (with_reducible refine BlkP.Blk.alloc ?_ _) | (exact rfl))), hR.below (by (repeat' (first | (with_reducible exact Below.refl _ _) | (with_reducible refine Below.setCell ?_ (by (first | omega | (simp; done) | (simp; omega))) _) | (with_reducible refine Below.alloc ?_ (by (first | omega | (simp; done) | (simp; omega))) _) | (with_reducible refine Below.drew ?_) | (with_reducible refine below_drewN ?_ _)))), hQ.below (by (repeat' (first | (with_reducible exact Below.refl _ _) | (with_reducible refine Below.setCell ?_ (by (first | omega | (simp; done) | (simp; omega))) _) | (with_reducible refine Below.alloc ?_ (by (first | omega | (simp; done) | (simp; omega))) _) | (with_reducible refine Below.drew ?_) | (with_reducible refine below_drewN ?_ _))))⟩ ?_
          clear hHeld hR hQ
          rintro v3 ⟨hHeld, hN, hR, hQ⟩
          have hSv3 := hHeld.size
          refine wpAnyH_ready (rs := [4]) (by kernel_rfl) (by simp) ?_
          refine AllReadyH.cons (o := ⟨some 6, _, _, _, _, _⟩) rfl (fun K hK => ?_) ?_
          · go_simp
            refine hK.out _ _ (hHeld.alloc hHeld.size _) (fun hHeld => ?_)
            clear hK K
            have lN := hN.lt
            refine any_named (fun W => Below W0.heap.size W0 W ∧ Blk W v3.heap.size TD [.slice none 0 0, .int .i64 0, .int .i64 0] ∧ Blk W v2.heap.size TD [.slice none 0 0, .int .i64 0, .int .i64 0] ∧ RowG.Own encX TX W W0.heap.size (.slice AR k cR) l ∧ RowG.Own encX TX W W0.heap.size (.slice AQ k cQ) l) ⟨hHeld, by (repeat' (first | (with_reducible refine BlkP.Blk.drew ?_) | (with_reducible refine BlkP.Blk.drewN ?_ _) | (with_reducible refine BlkP.Blk.setAt (us := ?_) (by first | omega | (simp; done) | (simp; omega)) rfl ?_ ?_) | (with_reducible refine BlkP.Blk.otherAt ?_ (by first | omega | (simp; done) | (simp; omega))) | (with_reducible refine BlkP.Blk.newA' (by first | omega | (simp; done) | (simp; omega)) rfl) | (with_reducible refine BlkP.Blk.alloc ?_ _) | (exact rfl))), by (repeat' (first | (with_reducible exact hN) | (with_reducible refine BlkP.Blk.drew ?_) | (with_reducible refine BlkP.Blk.drewN ?_ _) | (with_reducible refine BlkP.Blk.setAt (us := ?_) (by first | omega | (simp; done) | (simp; omega)) rfl ?_ ?_) | (with_reducible refine BlkP.Blk.otherAt ?_ (by first | omega | (simp; done) | (simp; omega))) | (with_reducible refine BlkP.Blk.newA' (by first | omega | (simp; done) | (simp; omega)) rfl) | (with_reducible refine BlkP.Blk.alloc ?_ _) | (exact rfl))), hR.below (by (repeat' (first | (with_reducible exact Below.refl _ _) | (with_reducible refine Below.setCell ?_ (by (first | omega | (simp; done) | (simp; omega))) _) | (with_reducible refine Below.alloc ?_ (by (first | omega | (simp; done) | (simp; omega))) _) | (with_reducible refine Below.drew ?_) | (with_reducible refine below_drewN ?_ _)))), hQ.below (by (repeat' (first | (with_reducible exact Below.refl _ _) | (with_reducible refine Below.setCell ?_ (by (first | omega | (simp; done) | (simp; omega))) _) | (with_reducible refine Below.alloc ?_ (by (first | omega | (simp; done) | (simp; omega))) _) | (with_reducible refine Below.drew ?_) | (with_reducible refine below_drewN ?_ _))))⟩ ?_
            clear hHeld hN hR hQ
            rintro v4 ⟨hHeld, hA, hN, hR, hQ⟩
            have hSv4 := hHeld.size
            refine wpAnyH_ready (rs := [6]) (by kernel_rfl) (by simp) ?_
            refine AllReadyH.cons (o := ⟨none, _, _, _, _, _⟩) rfl (fun K hK => ?_) ?_
            · have e0 := hA.cell (i := 0) (v := .slice none 0 0) rfl
              have f0 := hA.frozen 0
              have e1 := hA.cell (i := 1) (v := .int .i64 0) rfl
              have f1 := hA.frozen 1
              have e2 := hA.cell (i := 2) (v := .int .i64 0) rfl
              have f2 := hA.frozen 2
              have lA := hA.lt
              have lN := hN.lt
              go_simp
              refine hK.out _ _ (by (repeat' (first | (with_reducible exact Below.refl _ _) | (with_reducible refine Below.setCell ?_ (by (first | omega | (simp; done) | (simp; omega))) _) | (with_reducible refine Below.alloc ?_ (by (first | omega | (simp; done) | (simp; omega))) _) | (with_reducible refine Below.drew ?_) | (with_reducible refine below_drewN ?_ _) | (with_reducible refine Below.trans ?_ (Below.mono hHeld (by (first | omega | (simp; done) | (simp; omega)))))))) (fun hHeld => ?_)
              clear hK K
              clear e0 e1 e2 f0 f1 f2
              refine any_named (fun W => Below W0.heap.size W0 W ∧ Blk W v3.heap.size TD [.slice AR k cR, .int .i64 ag, .int .i64 dl] ∧ Blk W v2.heap.size TD [.slice none 0 0, .int .i64 0, .int .i64 0] ∧ RowG.Own encX TX W W0.heap.size (.slice AR k cR) l ∧ RowG.Own encX TX W W0.heap.size (.slice AQ k cQ) l) ⟨hHeld, by (repeat' (first | (with_reducible exact hA) | (with_reducible refine BlkP.Blk.drew ?_) | (with_reducible refine BlkP.Blk.drewN ?_ _) | (with_reducible refine BlkP.Blk.setAt (us := ?_) (by first | omega | (simp; done) | (simp; omega)) rfl ?_ ?_) | (with_reducible refine BlkP.Blk.otherAt ?_ (by first | omega | (simp; done) | (simp; omega))) | (with_reducible refine BlkP.Blk.newA' (by first | omega | (simp; done) | (simp; omega)) rfl) | (with_reducible refine BlkP.Blk.alloc ?_ _) | (exact rfl))), by (repeat' (first | (with_reducible exact hN) | (with_reducible refine BlkP.Blk.drew ?_) | (with_reducible refine BlkP.Blk.drewN ?_ _) | (with_reducible refine BlkP.Blk.setAt (us := ?_) (by first | omega | (simp; done) | (simp; omega)) rfl ?_ ?_) | (with_reducible refine BlkP.Blk.otherAt ?_ (by first | omega | (simp; done) | (simp; omega))) | (with_reducible refine BlkP.Blk.newA' (by first | omega | (simp; done) | (simp; omega)) rfl) | (with_reducible refine BlkP.Blk.alloc ?_ _) | (exact rfl))), by first | exact own_set3 hR hA | exact own_set3 hR.drew hA.drew, by first | exact own_set3 hQ hA | exact own_set3 hQ.drew hA.drew⟩ ?_
              clear hHeld hA hN hR hQ
              rintro v5 ⟨hHeld, hA, hN, hR, hQ⟩
              have hSv5 := hHeld.size
              refine wpAnyH_ready (rs := [7]) (by kernel_rfl) (by simp) ?_
              refine AllReadyH.cons (o := ⟨none, _, _, _, _, _⟩) rfl (fun K hK => ?_) ?_
              · have e0 := hN.cell (i := 0) (v := .slice none 0 0) rfl
                have f0 := hN.frozen 0
                have e1 := hN.cell (i := 1) (v := .int .i64 0) rfl
                have f1 := hN.frozen 1
                have e2 := hN.cell (i := 2) (v := .int .i64 0) rfl
                have f2 := hN.frozen 2
                have lA := hA.lt
                have lN := hN.lt
                go_simp
                refine hK.out _ _ (by (repeat' (first | (with_reducible exact Below.refl _ _) | (with_reducible refine Below.setCell ?_ (by (first | omega | (simp; done) | (simp; omega))) _) | (with_reducible refine Below.alloc ?_ (by (first | omega | (simp; done) | (simp; omega))) _) | (with_reducible refine Below.drew ?_) | (with_reducible refine below_drewN ?_ _) | (with_reducible refine Below.trans ?_ (Below.mono hHeld (by (first | omega | (simp; done) | (simp; omega)))))))) (fun hHeld => ?_)
                clear hK K
                clear e0 e1 e2 f0 f1 f2
                refine any_named (fun W => Below W0.heap.size W0 W ∧ Blk W v3.heap.size TD [.slice AR k cR, .int .i64 ag, .int .i64 dl] ∧ Blk W v2.heap.size TD [.slice AQ k cQ, .int .i64 ag, .int .i64 dl] ∧ RowG.Own encX TX W W0.heap.size (.slice AR k cR) l ∧ RowG.Own encX TX W W0.heap.size (.slice AQ k cQ) l) ⟨hHeld, by (repeat' (first | (with_reducible exact hA) | (with_reducible refine BlkP.Blk.drew ?_) | (with_reducible refine BlkP.Blk.drewN ?_ _) | (with_reducible refine BlkP.Blk.setAt (us := ?_) (by first | omega | (simp; done) | (simp; omega)) rfl ?_ ?_) | (with_reducible refine BlkP.Blk.otherAt ?_ (by first | omega | (simp; done) | (simp; omega))) | (with_reducible refine BlkP.Blk.newA' (by first | omega | (simp; done) | (simp; omega)) rfl) | (with_reducible refine BlkP.Blk.alloc ?_ _) | (exact rfl))), by (repeat' (first | (with_reducible exact hN) | (with_reducible refine BlkP.Blk.drew ?_) | (with_reducible refine BlkP.Blk.drewN ?_ _) | (with_reducible refine BlkP.Blk.setAt (us := ?_) (by first | omega | (simp; done) | (simp; omega)) rfl ?_ ?_) | (with_reducible refine BlkP.Blk.otherAt ?_ (by first | omega | (simp; done) | (simp; omega))) | (with_reducible refine BlkP.Blk.newA' (by first | omega | (simp; done) | (simp; omega)) rfl) | (with_reducible refine BlkP.Blk.alloc ?_ _) | (exact rfl))), by first | exact own_set3 hR hN | exact own_set3 hR.drew hN.drew, by first | exact own_set3 hQ hN | exact own_set3 hQ.drew hN.drew⟩ ?_
                clear hHeld hA hN hR hQ
                rintro v6 ⟨hHeld, hA, hN, hR, hQ⟩
                have hSv6 := hHeld.size
                refine wpAnyH_done (by kernel_rfl) ?_ _
                refine NoPanic.normal ?_
                go_wp2_with fail
                go_meet
                case rel =>
                  exact ⟨v3.heap.size, v2.heap.size, AR, cR, AQ, cQ, rfl, rfl, by omega, by omega, by omega, hA, hN, hR, hQ, hDIF, hHeld⟩
              exact AllReadyH.nil
            exact AllReadyH.nil
          exact AllReadyH.nil
        exact AllReadyH.nil
      refine AllReadyH.cons (o := ⟨some 6, _, _, _, _, _⟩) rfl (fun K hK => ?_) ?_
      · go_simp
        refine hK.out _ _ (hHeld.alloc hHeld.size _) (fun hHeld => ?_)
        clear hK K
        refine any_named (fun W => Below W0.heap.size W0 W ∧ Blk W v1.heap.size TD [.slice none 0 0, .int .i64 0, .int .i64 0] ∧ RowG.Own encX TX W W0.heap.size (.slice AR k cR) l) ⟨hHeld, by (repeat' (first | (with_reducible refine BlkP.Blk.drew ?_) | (with_reducible refine BlkP.Blk.drewN ?_ _) | (with_reducible refine BlkP.Blk.setAt (us := ?_) (by first | omega | (simp; done) | (simp; omega)) rfl ?_ ?_) | (with_reducible refine BlkP.Blk.otherAt ?_ (by first | omega | (simp; done) | (simp; omega))) | (with_reducible refine BlkP.Blk.newA' (by first | omega | (simp; done) | (simp; omega)) rfl) | (with_reducible refine BlkP.Blk.alloc ?_ _) | (exact rfl))), hR.below (by (repeat' (first | (with_reducible exact Below.refl _ _) | (with_reducible refine Below.setCell ?_ (by (first | omega | (simp; done) | (simp; omega))) _) | (with_reducible refine Below.alloc ?_ (by (first | omega | (simp; done) | (simp; omega))) _) | (with_reducible refine Below.drew ?_) | (with_reducible refine below_drewN ?_ _))))⟩ ?_
        clear hHeld hR
        rintro v2 ⟨hHeld, hA, hR⟩
        have hSv2 := hHeld.size
        refine wpAnyH_ready (rs := [3, 5]) (by kernel_rfl) (by simp) ?_
        refine AllReadyH.cons (o := ⟨some 14, _, _, _, _, _⟩) rfl (fun K hK => ?_) ?_
        · have hHeld0 := hHeld.size
          go_simp
          refine (Next_q (HT.out.below (below_t HB0.out hHeld)) H8.out HDR.out hd2 HL.out).mono ?_
          rintro e wf ⟨vf, rfl, hof, hbf⟩
          obtain ⟨AQ, cQ, rfl, _, _, _⟩ := hof.form HK.out
          have hDIF : ∀ g, (Value.slice AR k cR).ownBlock = some g → (Value.slice AQ k cQ).ownBlock ≠ some g := fun g h1 h2 => absurd (Nat.lt_of_lt_of_le (hR.ge g h1).2 (hof.ge g h2).1) (Nat.lt_irrefl _)
          go_wp2_with fail
          refine hK.out _ _ (below_t hHeld hbf) (fun hHeld => ?_)
          clear hK K
          refine any_named (fun W => Below W0.heap.size W0 W ∧ Blk W v1.heap.size TD [.slice none 0 0, .int .i64 0, .int .i64 0] ∧ RowG.Own encX TX W W0.heap.size (.slice AR k cR) l ∧ RowG.Own encX TX W W0.heap.size (.slice AQ k cQ) l) ⟨hHeld, hA.below hbf, hR.below hbf, hof.mono (show W0.heap.size ≤ _ from hHeld0)⟩ ?_
          clear hHeld hA hR
          rintro v3 ⟨hHeld, hA, hR, hQ⟩
          have hSv3 := hHeld.size
          clear hof hbf
          refine wpAnyH_ready (rs := [5]) (by kernel_rfl) (by simp) ?_
          refine AllReadyH.cons (o := ⟨some 7, _, _, _, _, _⟩) rfl (fun K hK => ?_) ?_
          · go_simp
            refine hK.out _ _ (hHeld.alloc hHeld.size _) (fun hHeld => ?_)
            clear hK K
            have lA := hA.lt
            refine any_named (fun W => Below W0.heap.size W0 W ∧ Blk W v1.heap.size TD [.slice none 0 0, .int .i64 0, .int .i64 0] ∧ Blk W v3.heap.size TD [.slice none 0 0, .int .i64 0, .int .i64 0] ∧ RowG.Own encX TX W W0.heap.size (.slice AR k cR) l ∧ RowG.Own encX TX W W0.heap.size (.slice AQ k cQ) l) ⟨hHeld, by (repeat' (first | (with_reducible exact hA) | (with_reducible refine BlkP.Blk.drew ?_) | (with_reducible refine BlkP.Blk.drewN ?_ _) | (with_reducible refine BlkP.Blk.setAt (us := ?_) (by first | omega | (simp; done) | (simp; omega)) rfl ?_ ?_) | (with_reducible refine BlkP.Blk.otherAt ?_ (by first | omega | (simp; done) | (simp; omega))) | (with_reducible refine BlkP.Blk.newA' (by first | omega | (simp; done) | (simp; omega)) rfl) | (with_reducible refine BlkP.Blk.alloc ?_ _) | (exact rfl))), by (repeat' (first | (with_reducible refine BlkP.Blk.drew ?_) | (with_reducible refine BlkP.Blk.drewN ?_ _) | (with_reducible refine BlkP.Blk.setAt (us := ?_) (by first | omega | (simp; done) | (simp; omega)) rfl ?_ ?_) | (with_reducible refine BlkP.Blk.otherAt ?_ (by first | omega | (simp; done) | (simp; omega))) | (with_reducible refine BlkP.Blk.newA' (by first | omega | (simp; done) | (simp; omega)) rfl) | (with_reducible refine BlkP.Blk.alloc ?_ _) | (exact rfl))), hR.below (by (repeat' (first | (with_reducible exact Below.refl _ _) | (with_reducible refine Below.setCell ?_ (by (first | omega | (simp; done) | (simp; omega))) _) | (with_reducible refine Below.alloc ?_ (by (first | omega | (simp; done) | (simp; omega))) _) | (with_reducible refine Below.drew ?_) | (with_reducible refine below_drewN ?_ _)))), hQ.below (by (repeat' (first | (with_reducible exact Below.refl _ _) | (with_reducible refine Below.setCell ?_ (by (first | omega | (simp; done) | (simp; omega))) _) | (with_reducible refine Below.alloc ?_ (by (first | omega | (simp; done) | (simp; omega))) _) | (with_reducible refine Below.drew ?_) | (with_reducible refine below_drewN ?_ _))))⟩ ?_
            clear hHeld hA hR hQ
            rintro v4 ⟨hHeld, hA, hN, hR, hQ⟩
            have hSv4 := hHeld.size
            refine wpAnyH_ready (rs := [6]) (by kernel_rfl) (by simp) ?_
            refine AllReadyH.cons (o := ⟨none, _, _, _, _, _⟩) rfl (fun K hK => ?_) ?_
            · have e0 := hA.cell (i := 0) (v := .slice none 0 0) rfl
              have f0 := hA.frozen 0
              have e1 := hA.cell (i := 1) (v := .int .i64 0) rfl
              have f1 := hA.frozen 1
              have e2 := hA.cell (i := 2) (v := .int .i64 0) rfl
              have f2 := hA.frozen 2
              have lA := hA.lt
              have lN := hN.lt
              go_simp
              refine hK.out _ _ (by (repeat' (first | (with_reducible exact Below.refl _ _) | (with_reducible refine Below.setCell ?_ (by (first | omega | (simp; done) | (simp; omega))) _) | (with_reducible refine Below.alloc ?_ (by (first | omega | (simp; done) | (simp; omega))) _) | (with_reducible refine Below.drew ?_) | (with_reducible refine below_drewN ?_ _) | (with_reducible refine Below.trans ?_ (Below.mono hHeld (by (first | omega | (simp; done) | (simp; omega)))))))) (fun hHeld => ?_)
              clear hK K
              clear e0 e1 e2 f0 f1 f2
              refine any_named (fun W => Below W0.heap.size W0 W ∧ Blk W v1.heap.size TD [.slice AR k cR, .int .i64 ag, .int .i64 dl] ∧ Blk W v3.heap.size TD [.slice none 0 0, .int .i64 0, .int .i64 0] ∧ RowG.Own encX TX W W0.heap.size (.slice AR k cR) l ∧ RowG.Own encX TX W W0.heap.size (.slice AQ k cQ) l) ⟨hHeld, by (repeat' (first | (with_reducible exact hA) | (with_reducible refine BlkP.Blk.drew ?_) | (with_reducible refine BlkP.Blk.drewN ?_ _) | (with_reducible refine BlkP.Blk.setAt (us := ?_) (by first | omega | (simp; done) | (simp; omega)) rfl ?_ ?_) | (with_reducible refine BlkP.Blk.otherAt ?_ (by first | omega | (simp; done) | (simp; omega))) | (with_reducible refine BlkP.Blk.newA' (by first | omega | (simp; done) | (simp; omega)) rfl) | (with_reducible refine BlkP.Blk.alloc ?_ _) | (exact rfl))), by (repeat' (first | (with_reducible exact hN) | (with_reducible refine BlkP.Blk.drew ?_) | (with_reducible refine BlkP.Blk.drewN ?_ _) | (with_reducible refine BlkP.Blk.setAt (us := ?_) (by first | omega | (simp; done) | (simp; omega)) rfl ?_ ?_) | (with_reducible refine BlkP.Blk.otherAt ?_ (by first | omega | (simp; done) | (simp; omega))) | (with_reducible refine BlkP.Blk.newA' (by first | omega | (simp; done) | (simp; omega)) rfl) | (with_reducible refine BlkP.Blk.alloc ?_ _) | (exact rfl))), by first | exact own_set3 hR hA | exact own_set3 hR.drew hA.drew, by first | exact own_set3 hQ hA | exact own_set3 hQ.drew hA.drew⟩ ?_
              clear hHeld hA hN hR hQ
              rintro v5 ⟨hHeld, hA, hN, hR, hQ⟩
              have hSv5 := hHeld.size
              refine wpAnyH_ready (rs := [7]) (by kernel_rfl) (by simp) ?_
              refine AllReadyH.cons (o := ⟨none, _, _, _, _, _⟩) rfl (fun K hK => ?_) ?_
              · have e0 := hN.cell (i := 0) (v := .slice none 0 0) rfl
                have f0 := hN.frozen 0
                have e1 := hN.cell (i := 1) (v := .int .i64 0) rfl
                have f1 := hN.frozen 1
                have e2 := hN.cell (i := 2) (v := .int .i64 0) rfl
                have f2 := hN.frozen 2
                have lA := hA.lt
                have lN := hN.lt
                go_simp
                refine hK.out _ _ (by (repeat' (first | (with_reducible exact Below.refl _ _) | (with_reducible refine Below.setCell ?_ (by (first | omega | (simp; done) | (simp; omega))) _) | (with_reducible refine Below.alloc ?_ (by (first | omega | (simp; done) | (simp; omega))) _) | (with_reducible refine Below.drew ?_) | (with_reducible refine below_drewN ?_ _) | (with_reducible refine Below.trans ?_ (Below.mono hHeld (by (first | omega | (simp; done) | (simp; omega)))))))) (fun hHeld => ?_)
                clear hK K
                clear e0 e1 e2 f0 f1 f2
                refine any_named (fun W => Below W0.heap.size W0 W ∧ Blk W v1.heap.size TD [.slice AR k cR, .int .i64 ag, .int .i64 dl] ∧ Blk W v3.heap.size TD [.slice AQ k cQ, .int .i64 ag, .int .i64 dl] ∧ RowG.Own encX TX W W0.heap.size (.slice AR k cR) l ∧ RowG.Own encX TX W W0.heap.size (.slice AQ k cQ) l) ⟨hHeld, by (repeat' (first | (with_reducible exact hA) | (with_reducible refine BlkP.Blk.drew ?_) | (with_reducible refine BlkP.Blk.drewN ?_ _) | (with_reducible refine BlkP.Blk.setAt (us := ?_) (by first | omega | (simp; done) | (simp; omega)) rfl ?_ ?_) | (with_reducible refine BlkP.Blk.otherAt ?_ (by first | omega | (simp; done) | (simp; omega))) | (with_reducible refine BlkP.Blk.newA' (by first | omega | (simp; done) | (simp; omega)) rfl) | (with_reducible refine BlkP.Blk.alloc ?_ _) | (exact rfl))), by (repeat' (first | (with_reducible exact hN) | (with_reducible refine BlkP.Blk.drew ?_) | (with_reducible refine BlkP.Blk.drewN ?_ _) | (with_reducible refine BlkP.Blk.setAt (us := ?_) (by first | omega | (simp; done) | (simp; omega)) rfl ?_ ?_) | (with_reducible refine BlkP.Blk.otherAt ?_ (by first | omega | (simp; done) | (simp; omega))) | (with_reducible refine BlkP.Blk.newA' (by first | omega | (simp; done) | (simp; omega)) rfl) | (with_reducible refine BlkP.Blk.alloc ?_ _) | (exact rfl))), by first | exact own_set3 hR hN | exact own_set3 hR.drew hN.drew, by first | exact own_set3 hQ hN | exact own_set3 hQ.drew hN.drew⟩ ?_
                clear hHeld hA hN hR hQ
                rintro v6 ⟨hHeld, hA, hN, hR, hQ⟩
                have hSv6 := hHeld.size
                refine wpAnyH_done (by kernel_rfl) ?_ _
                refine NoPanic.normal ?_
                go_wp2_with fail
                go_meet
                case rel =>
                  exact ⟨v1.heap.size, v3.heap.size, AR, cR, AQ, cQ, rfl, rfl, by omega, by omega, by omega, hA, hN, hR, hQ, hDIF, hHeld⟩
              exact AllReadyH.nil
            exact AllReadyH.nil
          exact AllReadyH.nil
        refine AllReadyH.cons (o := ⟨some 7, _, _, _, _, _⟩) rfl (fun K hK => ?_) ?_
        · go_simp
          refine hK.out _ _ (hHeld.alloc hHeld.size _) (fun hHeld => ?_)
          clear hK K
          have lA := hA.lt
          refine any_named (fun W => Below W0.heap.size W0 W ∧ Blk W v1.heap.size TD [.slice none 0 0, .int .i64 0, .int .i64 0] ∧ Blk W v2.heap.size TD [.slice none 0 0, .int .i64 0, .int .i64 0] ∧ RowG.Own encX TX W W0.heap.size (.slice AR k cR) l) ⟨hHeld, by (repeat' (first | (with_reducible exact hA) | (with_reducible refine BlkP.Blk.drew ?_) | (with_reducible refine BlkP.Blk.drewN ?_ _) | (with_reducible refine BlkP.Blk.setAt (us := ?_) (by first | omega | (simp; done) | (simp; omega)) rfl ?_ ?_) | (with_reducible refine BlkP.Blk.otherAt ?_ (by first | omega | (simp; done) | (simp; omega))) | (with_reducible refine BlkP.Blk.newA' (by first | omega | (simp; done) | (simp; omega)) rfl) | (with_reducible refine BlkP.Blk.alloc ?_ _) | (exact rfl))), by (repeat' (first | (with_reducible refine BlkP.Blk.drew ?_) | (with_reducible refine BlkP.Blk.drewN ?_ _) | (with_reducible refine BlkP.Blk.setAt (us := ?_) (by first | omega | (simp; done) | (simp; omega)) rfl ?_ ?_) | (with_reducible refine BlkP.Blk.otherAt ?_ (by first | omega | (simp; done) | (simp; omega))) | (with_reducible refine BlkP.Blk.newA' (by first | omega | (simp; done) | (simp; omega)) rfl) | (with_reducible refine BlkP.Blk.alloc ?_ _) | (exact rfl))), hR.below (by (repeat' (first | (with_reducible exact Below.refl _ _) | (with_reducible refine Below.setCell ?_ (by (first | omega | (simp; done) | (simp; omega))) _) | (with_reducible refine Below.alloc ?_ (by (first | omega | (simp; done) | (simp; omega))) _) | (with_reducible refine Below.drew ?_) | (with_reducible refine below_drewN ?_ _))))⟩ ?_
          clear hHeld hA hR
          rintro v3 ⟨hHeld, hA, hN, hR⟩
          have hSv3 := hHeld.size
          refine wpAnyH_ready (rs := [3]) (by kernel_rfl) (by simp) ?_
          refine AllReadyH.cons (o := ⟨some 14, _, _, _, _, _⟩) rfl (fun K hK => ?_) ?_
          · have hHeld0 := hHeld.size
            go_simp
            refine (Next_q (HT.out.below (below_t HB0.out hHeld)) H8.out HDR.out hd2 HL.out).mono ?_
            rintro e wf ⟨vf, rfl, hof, hbf⟩
            obtain ⟨AQ, cQ, rfl, _, _, _⟩ := hof.form HK.out
            have hDIF : ∀ g, (Value.slice AR k cR).ownBlock = some g → (Value.slice AQ k cQ).ownBlock ≠ some g := fun g h1 h2 => absurd (Nat.lt_of_lt_of_le (hR.ge g h1).2 (hof.ge g h2).1) (Nat.lt_irrefl _)
            go_wp2_with fail
            refine hK.out _ _ (below_t hHeld hbf) (fun hHeld => ?_)
            clear hK K
            refine any_named (fun W => Below W0.heap.size W0 W ∧ Blk W v1.heap.size TD [.slice none 0 0, .int .i64 0, .int .i64 0] ∧ Blk W v2.heap.size TD [.slice none 0 0, .int .i64 0, .int .i64 0] ∧ RowG.Own encX TX W W0.heap.size (.slice AR k cR) l ∧ RowG.Own encX TX W W0.heap.size (.slice AQ k cQ) l) ⟨hHeld, hA.below hbf, hN.below hbf, hR.below hbf, hof.mono (show W0.heap.size ≤ _ from hHeld0)⟩ ?_
            clear hHeld hA hN hR
            rintro v4 ⟨hHeld, hA, hN, hR, hQ⟩
            have hSv4 := hHeld.size
            clear hof hbf
            refine wpAnyH_ready (rs := [6]) (by kernel_rfl) (by simp) ?_
            refine AllReadyH.cons (o := ⟨none, _, _, _, _, _⟩) rfl (fun K hK => ?_) ?_
            · have e0 := hA.cell (i := 0) (v := .slice none 0 0) rfl
              have f0 := hA.frozen 0
              have e1 := hA.cell (i := 1) (v := .int .i64 0) rfl
              have f1 := hA.frozen 1
              have e2 := hA.cell (i := 2) (v := .int .i64 0) rfl
              have f2 := hA.frozen 2
              have lA := hA.lt
              have lN := hN.lt
              go_simp
              refine hK.out _ _ (by (repeat' (first | (with_reducible exact Below.refl _ _) | (with_reducible refine Below.setCell ?_ (by (first | omega | (simp; done) | (simp; omega))) _) | (with_reducible refine Below.alloc ?_ (by (first | omega | (simp; done) | (simp; omega))) _) | (with_reducible refine Below.drew ?_) | (with_reducible refine below_drewN ?_ _) | (with_reducible refine Below.trans ?_ (Below.mono hHeld (by (first | omega | (simp; done) | (simp; omega)))))))) (fun hHeld => ?_)
              clear hK K
              clear e0 e1 e2 f0 f1 f2
              refine any_named (fun W => Below W0.heap.size W0 W ∧ Blk W v1.heap.size TD [.slice AR k cR, .int .i64 ag, .int .i64 dl] ∧ Blk W v2.heap.size TD [.slice none 0 0, .int .i64 0, .int .i64 0] ∧ RowG.Own encX TX W W0.heap.size (.slice AR k cR) l ∧ RowG.Own encX TX W W0.heap.size (.slice AQ k cQ) l) ⟨hHeld, by (repeat' (first | (with_reducible exact hA) | (with_reducible refine BlkP.Blk.drew ?_) | (with_reducible refine BlkP.Blk.drewN ?_ _) | (with_reducible refine BlkP.Blk.setAt (us := ?_) (by first | omega | (simp; done) | (simp; omega)) rfl ?_ ?_) | (with_reducible refine BlkP.Blk.otherAt ?_ (by first | omega | (simp; done) | (simp; omega))) | (with_reducible refine BlkP.Blk.newA' (by first | omega | (simp; done) | (simp; omega)) rfl) | (with_reducible refine BlkP.Blk.alloc ?_ _) | (exact rfl))), by (repeat' (first | (with_reducible exact hN) | (with_reducible refine BlkP.Blk.drew ?_) | (with_reducible refine BlkP.Blk.drewN ?_ _) | (with_reducible refine BlkP.Blk.setAt (us := ?_) (by first | omega | (simp; done) | (simp; omega)) rfl ?_ ?_) | (with_reducible refine BlkP.Blk.otherAt ?_ (by first | omega | (simp; done) | (simp; omega))) | (with_reducible refine BlkP.Blk.newA' (by first | omega | (simp; done) | (simp; omega)) rfl) | (with_reducible refine BlkP.Blk.alloc ?_ _) | (exact rfl))), by first | exact own_set3 hR hA | exact own_set3 hR.drew hA.drew, by first | exact own_set3 hQ hA | exact own_set3 hQ.drew hA.drew⟩ ?_
              clear hHeld hA hN hR hQ
              rintro v5 ⟨hHeld, hA, hN, hR, hQ⟩
              have hSv5 := hHeld.size
              refine wpAnyH_ready (rs := [7]) (by kernel_rfl) (by simp) ?_
              refine AllReadyH.cons (o := ⟨none, _, _, _, _, _⟩) rfl (fun K hK => ?_) ?_
              · have e0 := hN.cell (i := 0) (v := .slice none 0 0) rfl
                have f0 := hN.frozen 0
                have e1 := hN.cell (i := 1) (v := .int .i64 0) rfl
                have f1 := hN.frozen 1
                have e2 := hN.cell (i := 2) (v := .int .i64 0) rfl
                have f2 := hN.frozen 2
                have lA := hA.lt
                have lN := hN.lt
                go_simp
                refine hK.out _ _ (by (repeat' (first | (with_reducible exact Below.refl _ _) | (with_reducible refine Below.setCell ?_ (by (first | omega | (simp; done) | (simp; omega))) _) | (with_reducible refine Below.alloc ?_ (by (first | omega | (simp; done) | (simp; omega))) _) | (with_reducible refine Below.drew ?_) | (with_reducible refine below_drewN ?_ _) | (with_reducible refine Below.trans ?_ (Below.mono hHeld (by (first | omega | (simp; done) | (simp; omega)))))))) (fun hHeld => ?_)
                clear hK K
                clear e0 e1 e2 f0 f1 f2
                refine any_named (fun W => Below W0.heap.size W0 W ∧ Blk W v1.heap.size TD [.slice AR k cR, .int .i64 ag, .int .i64 dl] ∧ Blk W v2.heap.size TD [.slice AQ k cQ, .int .i64 ag, .int .i64 dl] ∧ RowG.Own encX TX W W0.heap.size (.slice AR k cR) l ∧ RowG.Own encX TX W W0.heap.size (.slice AQ k cQ) l) ⟨hHeld, by (repeat' (first | (with_reducible exact hA) | (with_reducible refine BlkP.Blk.drew ?_) | (with_reducible refine BlkP.Blk.drewN ?_ _) | (with_reducible refine BlkP.Blk.setAt (us := ?_) (by first | omega | (simp; done) | (simp; omega)) rfl ?_ ?_) | (with_reducible refine BlkP.Blk.otherAt ?_ (by first | omega | (simp; done) | (simp; omega))) | (with_reducible refine BlkP.Blk.newA' (by first | omega | (simp; done) | (simp; omega)) rfl) | (with_reducible refine BlkP.Blk.alloc ?_ _) | (exact rfl))), by (repeat' (first | (with_reducible exact hN) | (with_reducible refine BlkP.Blk.drew ?_) | (with_reducible refine BlkP.Blk.drewN ?_ _) | (with_reducible refine BlkP.Blk.setAt (us := ?_) (by first | omega | (simp; done) | (simp; omega)) rfl ?_ ?_) | (with_reducible refine BlkP.Blk.otherAt ?_ (by first | omega | (simp; done) | (simp; omega))) | (with_reducible refine BlkP.Blk.newA' (by first | omega | (simp; done) | (simp; omega)) rfl) | (with_reducible refine BlkP.Blk.alloc ?_ _) | (exact rfl))), by first | exact own_set3 hR hN | exact own_set3 hR.drew hN.drew, by first | exact own_set3 hQ hN | exact own_set3 hQ.drew hN.drew⟩ ?_
                clear hHeld hA hN hR hQ
                rintro v6 ⟨hHeld, hA, hN, hR, hQ⟩
                have hSv6 := hHeld.size
                refine wpAnyH_done (by kernel_rfl) ?_ _
                refine NoPanic.normal ?_
                go_wp2_with fail
                go_meet
                case rel =>
                  exact ⟨v1.heap.size, v2.heap.size, AR, cR, AQ, cQ, rfl, rfl, by omega, by omega, by omega, hA, hN, hR, hQ, hDIF, hHeld⟩
              exact AllReadyH.nil
            exact AllReadyH.nil
          exact AllReadyH.nil
        exact AllReadyH.nil
      refine AllReadyH.cons (o := ⟨some 7, _, _, _, _, _⟩) rfl (fun K hK => ?_) ?_
      · go_simp
        refine hK.out _ _ (hHeld.alloc hHeld.size _) (fun hHeld => ?_)
        clear hK K
        refine any_named (fun W => Below W0.heap.size W0 W ∧ Blk W v1.heap.size TD [.slice none 0 0, .int .i64 0, .int .i64 0] ∧ RowG.Own encX TX W W0.heap.size (.slice AR k cR) l) ⟨hHeld, by (repeat' (first | (with_reducible refine BlkP.Blk.drew ?_) | (with_reducible refine BlkP.Blk.drewN ?_ _) | (with_reducible refine BlkP.Blk.setAt (us := ?_) (by first | omega | (simp; done) | (simp; omega)) rfl ?_ ?_) | (with_reducible refine BlkP.Blk.otherAt ?_ (by first | omega | (simp; done) | (simp; omega))) | (with_reducible refine BlkP.Blk.newA' (by first | omega | (simp; done) | (simp; omega)) rfl) | (with_reducible refine BlkP.Blk.alloc ?_ _) | (exact rfl))), hR.below (by (repeat' (first | (with_reducible exact Below.refl _ _) | (with_reducible refine Below.setCell ?_ (by (first | omega | (simp; done) | (simp; omega))) _) | (with_reducible refine Below.alloc ?_ (by (first | omega | (simp; done) | (simp; omega))) _) | (with_reducible refine Below.drew ?_) | (with_reducible refine below_drewN ?_ _))))⟩ ?_
        clear hHeld hR
        rintro v2 ⟨hHeld, hN, hR⟩
        have hSv2 := hHeld.size
        refine wpAnyH_ready (rs := [3, 4]) (by kernel_rfl) (by simp) ?_
        refine AllReadyH.cons (o := ⟨some 14, _, _, _, _, _⟩) rfl (fun K hK => ?_) ?_
        · have hHeld0 := hHeld.size
          go_simp
          refine (Next_q (HT.out.below (below_t HB0.out hHeld)) H8.out HDR.out hd2 HL.out).mono ?_
          rintro e wf ⟨vf, rfl, hof, hbf⟩
          obtain ⟨AQ, cQ, rfl, _, _, _⟩ := hof.form HK.out
          have hDIF : ∀ g, (Value.slice AR k cR).ownBlock = some g → (Value.slice AQ k cQ).ownBlock ≠ some g := fun g h1 h2 => absurd (Nat.lt_of_lt_of_le (hR.ge g h1).2 (hof.ge g h2).1) (Nat.lt_irrefl _)
          go_wp2_with fail
          refine hK.out _ _ (below_t hHeld hbf) (fun hHeld => ?_)
          clear hK K
          refine any_named (fun W => Below W0.heap.size W0 W ∧ Blk W v1.heap.size TD [.slice none 0 0, .int .i64 0, .int .i64 0] ∧ RowG.Own encX TX W W0.heap.size (.slice AR k cR) l ∧ RowG.Own encX TX W W0.heap.size (.slice AQ k cQ) l) ⟨hHeld, hN.below hbf, hR.below hbf, hof.mono (show W0.heap.size ≤ _ from hHeld0)⟩ ?_
          clear hHeld hN hR
          rintro v3 ⟨hHeld, hN, hR, hQ⟩
          have hSv3 := hHeld.size
          clear hof hbf
          refine wpAnyH_ready (rs := [4]) (by kernel_rfl) (by simp) ?_
          refine AllReadyH.cons (o := ⟨some 6, _, _, _, _, _⟩) rfl (fun K hK => ?_) ?_
          · go_simp
            refine hK.out _ _ (hHeld.alloc hHeld.size _) (fun hHeld => ?_)
            clear hK K
            have lN := hN.lt
            refine any_named (fun W => Below W0.heap.size W0 W ∧ Blk W v3.heap.size TD [.slice none 0 0, .int .i64 0, .int .i64 0] ∧ Blk W v1.heap.size TD [.slice none 0 0, .int .i64 0, .int .i64 0] ∧ RowG.Own encX TX W W0.heap.size (.slice AR k cR) l ∧ RowG.Own encX TX W W0.heap.size (.slice AQ k cQ) l) ⟨hHeld, by (repeat' (first | (with_reducible refine BlkP.Blk.drew ?_) | (with_reducible refine BlkP.Blk.drewN ?_ _) | (with_reducible refine BlkP.Blk.setAt (us := ?_) (by first | omega | (simp; done) | (simp; omega)) rfl ?_ ?_) | (with_reducible refine BlkP.Blk.otherAt ?_ (by first | omega | (simp; done) | (simp; omega))) | (with_reducible refine BlkP.Blk.newA' (by first | omega | (simp; done) | (simp; omega)) rfl) | (with_reducible refine BlkP.Blk.alloc ?_ _) | (exact rfl))), by (repeat' (first | (with_reducible exact hN) | (with_reducible refine BlkP.Blk.drew ?_) | (with_reducible refine BlkP.Blk.drewN ?_ _) | (with_reducible refine BlkP.Blk.setAt (us := ?_) (by first | omega | (simp; done) | (simp; omega)) rfl ?_ ?_) | (with_reducible refine BlkP.Blk.otherAt ?_ (by first | omega | (simp; done) | (simp; omega))) | (with_reducible refine BlkP.Blk.newA' (by first | omega | (simp; done) | (simp; omega)) rfl) | (with_reducible refine BlkP.Blk.alloc ?_ _) | (exact rfl))), hR.below (by (repeat' (first | (with_reducible exact Below.refl _ _) | (with_reducible refine Below.setCell ?_ (by (first | omega | (simp; done) | (simp; omega))) _) | (with_reducible refine Below.alloc ?_ (by (first | omega | (simp; done) | (simp; omega))) _) | (with_reducible refine Below.drew ?_) | (with_reducible refine below_drewN ?_ _)))), hQ.below (by (repeat' (first | (with_reducible exact Below.refl _ _) | (with_reducible refine Below.setCell ?_ (by (first | omega | (simp; done) | (simp; omega))) _) | (with_reducible refine Below.alloc ?_ (by (first | omega | (simp; done) | (simp; omega))) _) | (with_reducible refine Below.drew ?_) | (with_reducible refine below_drewN ?_ _))))⟩ ?_
            clear hHeld hN hR hQ
            rintro v4 ⟨hHeld, hA, hN, hR, hQ⟩
            have hSv4 := hHeld.size
            refine wpAnyH_ready (rs := [6]) (by kernel_rfl) (by simp) ?_
            refine AllReadyH.cons (o := ⟨none, _, _, _, _, _⟩) rfl (fun K hK => ?_) ?_
            · have e0 := hA.cell (i := 0) (v := .slice none 0 0) rfl
              have f0 := hA.frozen 0
              have e1 := hA.cell (i := 1) (v := .int .i64 0) rfl
              have f1 := hA.frozen 1
              have e2 := hA.cell (i := 2) (v := .int .i64 0) rfl
              have f2 := hA.frozen 2
              have lA := hA.lt
              have lN := hN.lt
              go_simp
              refine hK.out _ _ (by (repeat' (first | (with_reducible exact Below.refl _ _) | (with_reducible refine Below.setCell ?_ (by (first | omega | (simp; done) | (simp; omega))) _) | (with_reducible refine Below.alloc ?_ (by (first | omega | (simp; done) | (simp; omega))) _) | (with_reducible refine Below.drew ?_) | (with_reducible refine below_drewN ?_ _) | (with_reducible refine Below.trans ?_ (Below.mono hHeld (by (first | omega | (simp; done) | (simp; omega)))))))) (fun hHeld => ?_)
              clear hK K
              clear e0 e1 e2 f0 f1 f2
              refine any_named (fun W => Below W0.heap.size W0 W ∧ Blk W v3.heap.size TD [.slice AR k cR, .int .i64 ag, .int .i64 dl] ∧ Blk W v1.heap.size TD [.slice none 0 0, .int .i64 0, .int .i64 0] ∧ RowG.Own encX TX W W0.heap.size (.slice AR k cR) l ∧ RowG.Own encX TX W W0.heap.size (.slice AQ k cQ) l) ⟨hHeld, by (repeat' (first | (with_reducible exact hA) | (with_reducible refine BlkP.Blk.drew ?_) | (with_reducible refine BlkP.Blk.drewN ?_ _) | (with_reducible refine BlkP.Blk.setAt (us := ?_) (by first | omega | (simp; done) | (simp; omega)) rfl ?_ ?_) | (with_reducible refine BlkP.Blk.otherAt ?_ (by first | omega | (simp; done) | (simp; omega))) | (with_reducible refine BlkP.Blk.newA' (by first | omega | (simp; done) | (simp; omega)) rfl) | (with_reducible refine BlkP.Blk.alloc ?_ _) | (exact rfl))), by (repeat' (first | (with_reducible exact hN) | (with_reducible refine BlkP.Blk.drew ?_) | (with_reducible refine BlkP.Blk.drewN ?_ _) | (with_reducible refine BlkP.Blk.setAt (us := ?_) (by first | omega | (simp; done) | (simp; omega)) rfl ?_ ?_) | (with_reducible refine BlkP.Blk.otherAt ?_ (by first | omega | (simp; done) | (simp; omega))) | (with_reducible refine BlkP.Blk.newA' (by first | omega | (simp; done) | (simp; omega)) rfl) | (with_reducible refine BlkP.Blk.alloc ?_ _) | (exact rfl))), by first | exact own_set3 hR hA | exact own_set3 hR.drew hA.drew, by first | exact own_set3 hQ hA | exact own_set3 hQ.drew hA.drew⟩ ?_
              clear hHeld hA hN hR hQ
              rintro v5 ⟨hHeld, hA, hN, hR, hQ⟩
              have hSv5 := hHeld.size
              refine wpAnyH_ready (rs := [7]) (by kernel_rfl) (by simp) ?_
              refine AllReadyH.cons (o := ⟨none, _, _, _, _, _⟩) rfl (fun K hK => ?_) ?_
              · have e0 := hN.cell (i := 0) (v := .slice none 0 0) rfl
                have f0 := hN.frozen 0
                have e1 := hN.cell (i := 1) (v := .int .i64 0) rfl
                have f1 := hN.frozen 1
                have e2 := hN.cell (i := 2) (v := .int .i64 0) rfl
                have f2 := hN.frozen 2
                have lA := hA.lt
                have lN := hN.lt
                go_simp
                refine hK.out _ _ (by (repeat' (first | (with_reducible exact Below.refl _ _) | (with_reducible refine Below.setCell ?_ (by (first | omega | (simp; done) | (simp; omega))) _) | (with_reducible refine Below.alloc ?_ (by (first | omega | (simp; done) | (simp; omega))) _) | (with_reducible refine Below.drew ?_) | (with_reducible refine below_drewN ?_ _) | (with_reducible refine Below.trans ?_ (Below.mono hHeld (by (first | omega | (simp; done) | (simp; omega)))))))) (fun hHeld => ?_)
                clear hK K
                clear e0 e1 e2 f0 f1 f2
                refine any_named (fun W => Below W0.heap.size W0 W ∧ Blk W v3.heap.size TD [.slice AR k cR, .int .i64 ag, .int .i64 dl] ∧ Blk W v1.heap.size TD [.slice AQ k cQ, .int .i64 ag, .int .i64 dl] ∧ RowG.Own encX TX W W0.heap.size (.slice AR k cR) l ∧ RowG.Own encX TX W W0.heap.size (.slice AQ k cQ) l) ⟨hHeld, by (repeat' (first | (with_reducible exact hA) | (with_reducible refine BlkP.Blk.drew ?_) | (with_reducible refine BlkP.Blk.drewN ?_ _) | (with_reducible refine BlkP.Blk.setAt (us := ?_) (by first | omega | (simp; done) | (simp; omega)) rfl ?_ ?_) | (with_reducible refine BlkP.Blk.otherAt ?_ (by first | omega | (simp; done) | (simp; omega))) | (with_reducible refine BlkP.Blk.newA' (by first | omega | (simp; done) | (simp; omega)) rfl) | (with_reducible refine BlkP.Blk.alloc ?_ _) | (exact rfl))), by (repeat' (first | (with_reducible exact hN) | (with_reducible refine BlkP.Blk.drew ?_) | (with_reducible refine BlkP.Blk.drewN ?_ _) | (with_reducible refine BlkP.Blk.setAt (us := ?_) (by first | omega | (simp; done) | (simp; omega)) rfl ?_ ?_) | (with_reducible refine BlkP.Blk.otherAt ?_ (by first | omega | (simp; done) | (simp; omega))) | (with_reducible refine BlkP.Blk.newA' (by first | omega | (simp; done) | (simp; omega)) rfl) | (with_reducible refine BlkP.Blk.alloc ?_ _) | (exact rfl))), by first | exact own_set3 hR hN | exact own_set3 hR.drew hN.drew, by first | exact own_set3 hQ hN | exact own_set3 hQ.drew hN.drew⟩ ?_
                clear hHeld hA hN hR hQ
                rintro v6 ⟨hHeld, hA, hN, hR, hQ⟩
                have hSv6 := hHeld.size
                refine wpAnyH_done (by kernel_rfl) ?_ _
                refine NoPanic.normal ?_
                go_wp2_with fail
                go_meet
                case rel =>
                  exact ⟨v3.heap.size, v1.heap.size, AR, cR, AQ, cQ, rfl, rfl, by omega, by omega, by omega, hA, hN, hR, hQ, hDIF, hHeld⟩
              exact AllReadyH.nil
            exact AllReadyH.nil
          exact AllReadyH.nil
        refine AllReadyH.cons (o := ⟨some 6, _, _, _, _, _⟩) rfl (fun K hK => ?_) ?_
        · go_simp
          refine hK.out _ _ (hHeld.alloc hHeld.size _) (fun hHeld => ?_)
          clear hK K
          have lN := hN.lt
          refine any_named (fun W => Below W0.heap.size W0 W ∧ Blk W v2.heap.size TD [.slice none 0 0, .int .i64 0, .int .i64 0] ∧ Blk W v1.heap.size TD [.slice none 0 0, .int .i64 0, .int .i64 0] ∧ RowG.Own encX TX W W0.heap.size (.slice AR k cR) l) ⟨hHeld, by (repeat' (first | (with_reducible refine BlkP.Blk.drew ?_) | (with_reducible refine BlkP.Blk.drewN ?_ _) | (with_reducible refine BlkP.Blk.setAt (us := ?_) (by first | omega | (simp; done) | (simp; omega)) rfl ?_ ?_) | (with_reducible refine BlkP.Blk.otherAt ?_ (by first | omega | (simp; done) | (simp; omega))) | (with_reducible refine BlkP.Blk.newA' (by first | omega | (simp; done) | (simp; omega)) rfl) | (with_reducible refine BlkP.Blk.alloc ?_ _) | (exact rfl))), by (repeat' (first | (with_reducible exact hN) | (with_reducible refine BlkP.Blk.drew ?_) | (with_reducible refine BlkP.Blk.drewN ?_ _) | (with_reducible refine BlkP.Blk.setAt (us := ?_) (by first | omega | (simp; done) | (simp; omega)) rfl ?_ ?_) | (with_reducible refine BlkP.Blk.otherAt ?_ (by first | omega | (simp; done) | (simp; omega))) | (with_reducible refine BlkP.Blk.newA' (by first | omega | (simp; done) | (simp; omega)) rfl) | (with_reducible refine BlkP.Blk.alloc ?_ _) | (exact rfl))), hR.below (by (repeat' (first | (with_reducible exact Below.refl _ _) | (with_reducible refine Below.setCell ?_ (by (first | omega | (simp; done) | (simp; omega))) _) | (with_reducible refine Below.alloc ?_ (by (first | omega | (simp; done) | (simp; omega))) _) | (with_reducible refine Below.drew ?_) | (with_reducible refine below_drewN ?_ _))))⟩ ?_
          clear hHeld hN hR
          rintro v3 ⟨hHeld, hA, hN, hR⟩
          have hSv3 := hHeld.size
          refine wpAnyH_ready (rs := [3]) (by kernel_rfl) (by simp) ?_
          refine AllReadyH.cons (o := ⟨some 14, _, _, _, _, _⟩) rfl (fun K hK => ?_) ?_
          · have hHeld0 := hHeld.size
            go_simp
            refine (Next_q (HT.out.below (below_t HB0.out hHeld)) H8.out HDR.out hd2 HL.out).mono ?_
            rintro e wf ⟨vf, rfl, hof, hbf⟩
            obtain ⟨AQ, cQ, rfl, _, _, _⟩ := hof.form HK.out
            have hDIF : ∀ g, (Value.slice AR k cR).ownBlock = some g → (Value.slice AQ k cQ).ownBlock ≠ some g := fun g h1 h2 => absurd (Nat.lt_of_lt_of_le (hR.ge g h1).2 (hof.ge g h2).1) (Nat.lt_irrefl _)
            go_wp2_with fail
            refine hK.out _ _ (below_t hHeld hbf) (fun hHeld => ?_)
            clear hK K
            refine any_named (fun W => Below W0.heap.size W0 W ∧ Blk W v2.heap.size TD [.slice none 0 0, .int .i64 0, .int .i64 0] ∧ Blk W v1.heap.size TD [.slice none 0 0, .int .i64 0, .int .i64 0] ∧ RowG.Own encX TX W W0.heap.size (.slice AR k cR) l ∧ RowG.Own encX TX W W0.heap.size (.slice AQ k cQ) l) ⟨hHeld, hA.below hbf, hN.below hbf, hR.below hbf, hof.mono (show W0.heap.size ≤ _ from hHeld0)⟩ ?_
            clear hHeld hA hN hR
            rintro v4 ⟨hHeld, hA, hN, hR, hQ⟩
            have hSv4 := hHeld.size
            clear hof hbf
            refine wpAnyH_ready (rs := [6]) (by kernel_rfl) (by simp) ?_
            refine AllReadyH.cons (o := ⟨none, _, _, _, _, _⟩) rfl (fun K hK => ?_) ?_
            · have e0 := hA.cell (i := 0) (v := .slice none 0 0) rfl
              have f0 := hA.frozen 0
              have e1 := hA.cell (i := 1) (v := .int .i64 0) rfl
              have f1 := hA.frozen 1
              have e2 := hA.cell (i := 2) (v := .int .i64 0) rfl
              have f2 := hA.frozen 2
              have lA := hA.lt
              have lN := hN.lt
              go_simp
              refine hK.out _ _ (by (repeat' (first | (with_reducible exact Below.refl _ _) | (with_reducible refine Below.setCell ?_ (by (first | omega | (simp; done) | (simp; omega))) _) | (with_reducible refine Below.alloc ?_ (by (first | omega | (simp; done) | (simp; omega))) _) | (with_reducible refine Below.drew ?_) | (with_reducible refine below_drewN ?_ _) | (with_reducible refine Below.trans ?_ (Below.mono hHeld (by (first | omega | (simp; done) | (simp; omega)))))))) (fun hHeld => ?_)
              clear hK K
              clear e0 e1 e2 f0 f1 f2
              refine any_named (fun W => Below W0.heap.size W0 W ∧ Blk W v2.heap.size TD [.slice AR k cR, .int .i64 ag, .int .i64 dl] ∧ Blk W v1.heap.size TD [.slice none 0 0, .int .i64 0, .int .i64 0] ∧ RowG.Own encX TX W W0.heap.size (.slice AR k cR) l ∧ RowG.Own encX TX W W0.heap.size (.slice AQ k cQ) l) ⟨hHeld, by (repeat' (first | (with_reducible exact hA) | (with_reducible refine BlkP.Blk.drew ?_) | (with_reducible refine BlkP.Blk.drewN ?_ _) | (with_reducible refine BlkP.Blk.setAt (us := ?_) (by first | omega | (simp; done) | (simp; omega)) rfl ?_ ?_) | (with_reducible refine BlkP.Blk.otherAt ?_ (by first | omega | (simp; done) | (simp; omega))) | (with_reducible refine BlkP.Blk.newA' (by first | omega | (simp; done) | (simp; omega)) rfl) | (with_reducible refine BlkP.Blk.alloc ?_ _) | (exact rfl))), by (repeat' (first | (with_reducible exact hN) | (with_reducible refine BlkP.Blk.drew ?_) | (with_reducible refine BlkP.Blk.drewN ?_ _) | (with_reducible refine BlkP.Blk.setAt (us := ?_) (by first | omega | (simp; done) | (simp; omega)) rfl ?_ ?_) | (with_reducible refine BlkP.Blk.otherAt ?_ (by first | omega | (simp; done) | (simp; omega))) | (with_reducible refine BlkP.Blk.newA' (by first | omega | (simp; done) | (simp; omega)) rfl) | (with_reducible refine BlkP.Blk.alloc ?_ _) | (exact rfl))), by first | exact own_set3 hR hA | exact own_set3 hR.drew hA.drew, by first | exact own_set3 hQ hA | exact own_set3 hQ.drew hA.drew⟩ ?_
              clear hHeld hA hN hR hQ
              rintro v5 ⟨hHeld, hA, hN, hR, hQ⟩
              have hSv5 := hHeld.size
              refine wpAnyH_ready (rs := [7]) (by kernel_rfl) (by simp) ?_
              refine AllReadyH.cons (o := ⟨none, _, _, _, _, _⟩) rfl (fun K hK => ?_) ?_
              · have e0 := hN.cell (i := 0) (v := .slice none 0 0) rfl
                have f0 := hN.frozen 0
                have e1 := hN.cell (i := 1) (v := .int .i64 0) rfl
                have f1 := hN.frozen 1
                have e2 := hN.cell (i := 2) (v := .int .i64 0) rfl
                have f2 := hN.frozen 2
                have lA := hA.lt
                have lN := hN.lt
                go_simp
                refine hK.out _ _ (by (repeat' (first | (with_reducible exact Below.refl _ _) | (with_reducible refine Below.setCell ?_ (by (first | omega | (simp; done) | (simp; omega))) _) | (with_reducible refine Below.alloc ?_ (by (first | omega | (simp; done) | (simp; omega))) _) | (with_reducible refine Below.drew ?_) | (with_reducible refine below_drewN ?_ _) | (with_reducible refine Below.trans ?_ (Below.mono hHeld (by (first | omega | (simp; done) | (simp; omega)))))))) (fun hHeld => ?_)
                clear hK K
                clear e0 e1 e2 f0 f1 f2
                refine any_named (fun W => Below W0.heap.size W0 W ∧ Blk W v2.heap.size TD [.slice AR k cR, .int .i64 ag, .int .i64 dl] ∧ Blk W v1.heap.size TD [.slice AQ k cQ, .int .i64 ag, .int .i64 dl] ∧ RowG.Own encX TX W W0.heap.size (.slice AR k cR) l ∧ RowG.Own encX TX W W0.heap.size (.slice AQ k cQ) l) ⟨hHeld, by (repeat' (first | (with_reducible exact hA) | (with_reducible refine BlkP.Blk.drew ?_) | (with_reducible refine BlkP.Blk.drewN ?_ _) | (with_reducible refine BlkP.Blk.setAt (us := ?_) (by first | omega | (simp; done) | (simp; omega)) rfl ?_ ?_) | (with_reducible refine BlkP.Blk.otherAt ?_ (by first | omega | (simp; done) | (simp; omega))) | (with_reducible refine BlkP.Blk.newA' (by first | omega | (simp; done) | (simp; omega)) rfl) | (with_reducible refine BlkP.Blk.alloc ?_ _) | (exact rfl))), by (repeat' (first | (with_reducible exact hN) | (with_reducible refine BlkP.Blk.drew ?_) | (with_reducible refine BlkP.Blk.drewN ?_ _) | (with_reducible refine BlkP.Blk.setAt (us := ?_) (by first | omega | (simp; done) | (simp; omega)) rfl ?_ ?_) | (with_reducible refine BlkP.Blk.otherAt ?_ (by first | omega | (simp; done) | (simp; omega))) | (with_reducible refine BlkP.Blk.newA' (by first | omega | (simp; done) | (simp; omega)) rfl) | (with_reducible refine BlkP.Blk.alloc ?_ _) | (exact rfl))), by first | exact own_set3 hR hN | exact own_set3 hR.drew hN.drew, by first | exact own_set3 hQ hN | exact own_set3 hQ.drew hN.drew⟩ ?_
                clear hHeld hA hN hR hQ
                rintro v6 ⟨hHeld, hA, hN, hR, hQ⟩
                have hSv6 := hHeld.size
                refine wpAnyH_done (by kernel_rfl) ?_ _
                refine NoPanic.normal ?_
                go_wp2_with fail
                go_meet
                case rel =>
                  exact ⟨v2.heap.size, v1.heap.size, AR, cR, AQ, cQ, rfl, rfl, by omega, by omega, by omega, hA, hN, hR, hQ, hDIF, hHeld⟩
              exact AllReadyH.nil
            exact AllReadyH.nil
          exact AllReadyH.nil
        exact AllReadyH.nil
      exact AllReadyH.nil
    refine AllReadyH.cons (o := ⟨some 6, _, _, _, _, _⟩) rfl (fun K hK => ?_) ?_
    · go_simp
      refine hK.out _ _ (hHeld.alloc hHeld.size _) (fun hHeld => ?_)
      clear hK K
      refine any_named (fun W => Below W0.heap.size W0 W ∧ Blk W v0.heap.size TD [.slice none 0 0, .int .i64 0, .int .i64 0]) ⟨hHeld, by (repeat' (first | (with_reducible refine BlkP.Blk.drew ?_) | (with_reducible refine BlkP.Blk.drewN ?_ _) | (with_reducible refine BlkP.Blk.setAt (us := ?_) (by first | omega | (simp; done) | (simp; omega)) rfl ?_ ?_) | (with_reducible refine BlkP.Blk.otherAt ?_ (by first | omega | (simp; done) | (simp; omega))) | (with_reducible refine BlkP.Blk.newA' (by first | omega | (simp; done) | (simp; omega)) rfl) | (with_reducible refine BlkP.Blk.alloc ?_ _) | (exact rfl)))⟩ ?_
      clear hHeld
      rintro v1 ⟨hHeld, hA⟩
      have hSv1 := hHeld.size
      refine wpAnyH_ready (rs := [1, 5]) (by kernel_rfl) (by simp) ?_
      refine AllReadyH.cons (o := ⟨some 12, _, _, _, _, _⟩) rfl (fun K hK => ?_) ?_
      · have hHeld0 := hHeld.size
        go_simp
        refine (Next_q (HT.out.below (below_t HB0.out hHeld)) H8.out HDR.out hd2 HL.out).mono ?_
        rintro e wf ⟨vf, rfl, hof, hbf⟩
        obtain ⟨AR, cR, rfl, _, _, _⟩ := hof.form HK.out
        go_wp2_with fail
        refine hK.out _ _ (below_t hHeld hbf) (fun hHeld => ?_)
        clear hK K
        refine any_named (fun W => Below W0.heap.size W0 W ∧ Blk W v0.heap.size TD [.slice none 0 0, .int .i64 0, .int .i64 0] ∧ RowG.Own encX TX W W0.heap.size (.slice AR k cR) l) ⟨hHeld, hA.below hbf, hof.mono (show W0.heap.size ≤ _ from hHeld0)⟩ ?_
        clear hHeld hA
        rintro v2 ⟨hHeld, hA, hR⟩
        have hSv2 := hHeld.size
        clear hof hbf
        refine wpAnyH_ready (rs := [3, 5]) (by kernel_rfl) (by simp) ?_
        refine AllReadyH.cons (o := ⟨some 14, _, _, _, _, _⟩) rfl (fun K hK => ?_) ?_
        · have hHeld0 := hHeld.size
          go_simp
          refine (Next_q (HT.out.below (below_t HB0.out hHeld)) H8.out HDR.out hd2 HL.out).mono ?_
          rintro e wf ⟨vf, rfl, hof, hbf⟩
          obtain ⟨AQ, cQ, rfl, _, _, _⟩ := hof.form HK.out
          have hDIF : ∀ g, (Value.slice AR k cR).ownBlock = some g → (Value.slice AQ k cQ).ownBlock ≠ some g := fun g h1 h2 => absurd (Nat.lt_of_lt_of_le (hR.ge g h1).2 (hof.ge g h2).1) (Nat.lt_irrefl _)
          go_wp2_with fail
          refine hK.out _ _ (below_t hHeld hbf) (fun hHeld => ?_)
          clear hK K
          refine any_named (fun W => Below W0.heap.size W0 W ∧ Blk W v0.heap.size TD [.slice none 0 0, .int .i64 0, .int .i64 0] ∧ RowG.Own encX TX W W0.heap.size (.slice AR k cR) l ∧ RowG.Own encX TX W W0.heap.size (.slice AQ k cQ) l) ⟨hHeld, hA.below hbf, hR.below hbf, hof.mono (show W0.heap.size ≤ _ from hHeld0)⟩ ?_
          clear hHeld hA hR
          rintro v3 ⟨hHeld, hA, hR, hQ⟩
          have hSv3 := hHeld.size
          clear hof hbf
          refine wpAnyH_ready (rs := [5]) (by kernel_rfl) (by simp) ?_
          refine AllReadyH.cons (o := ⟨some 7, _, _, _, _, _⟩) rfl (fun K hK => ?_) ?_
          · go_simp
            refine hK.out _ _ (hHeld.alloc hHeld.size _) (fun hHeld => ?_)
            clear hK K
            have lA := hA.lt
            refine any_named (fun W => Below W0.heap.size W0 W ∧ Blk W v0.heap.size TD [.slice none 0 0, .int .i64 0, .int .i64 0] ∧ Blk W v3.heap.size TD [.slice none 0 0, .int .i64 0, .int .i64 0] ∧ RowG.Own encX TX W W0.heap.size (.slice AR k cR) l ∧ RowG.Own encX TX W W0.heap.size (.slice AQ k cQ) l) ⟨hHeld, by (repeat' (first | (with_reducible exact hA) | (with_reducible refine BlkP.Blk.drew ?_) | (with_reducible refine BlkP.Blk.drewN ?_ _) | (with_reducible refine BlkP.Blk.setAt (us := ?_) (by first | omega | (simp; done) | (simp; omega)) rfl ?_ ?_) | (with_reducible refine BlkP.Blk.otherAt ?_ (by first | omega | (simp; done) | (simp; omega))) | (with_reducible refine BlkP.Blk.newA' (by first | omega | (simp; done) | (simp; omega)) rfl) | (with_reducible refine BlkP.Blk.alloc ?_ _) | (exact rfl))), by (repeat' (first | (with_reducible refine BlkP.Blk.drew ?_) | (with_reducible refine BlkP.Blk.drewN ?_ _) | (with_reducible refine BlkP.Blk.setAt (us := ?_) (by first | omega | (simp; done) | (simp; omega)) rfl ?_ ?_) | (with_reducible refine BlkP.Blk.otherAt ?_ (by first | omega | (simp; done) | (simp; omega))) | (with_reducible refine BlkP.Blk.newA' (by first | omega | (simp; done) | (simp; omega)) rfl) | (with_reducible refine BlkP.Blk.alloc ?_ _) | (exact rfl))), hR.below (by (repeat' (first | (with_reducible exact Below.refl _ _) | (with_reducible refine Below.setCell ?_ (by (first | omega | (simp; done) | (simp; omega))) _) | (with_reducible refine Below.alloc ?_ (by (first | omega | (simp; done) | (simp; omega))) _) | (with_reducible refine Below.drew ?_) | (with_reducible refine below_drewN ?_ _)))), hQ.below (by (repeat' (first | (with_reducible exact Below.refl _ _) | (with_reducible refine Below.setCell ?_ (by (first | omega | (simp; done) | (simp; omega))) _) | (with_reducible refine Below.alloc ?_ (by (first | omega | (simp; done) | (simp; omega))) _) | (with_reducible refine Below.drew ?_) | (with_reducible refine below_drewN ?_ _))))⟩ ?_
            clear hHeld hA hR hQ
            rintro v4 ⟨hHeld, hA, hN, hR, hQ⟩
            have hSv4 := hHeld.size
            refine wpAnyH_ready (rs := [6]) (by kernel_rfl) (by simp) ?_
            refine AllReadyH.cons (o := ⟨none, _, _, _, _, _⟩) rfl (fun K hK => ?_) ?_
            · have e0 := hA.cell (i := 0) (v := .slice none 0 0) rfl
              have f0 := hA.frozen 0
              have e1 := hA.cell (i := 1) (v := .int .i64 0) rfl
              have f1 := hA.frozen 1
              have e2 := hA.cell (i := 2) (v := .int .i64 0) rfl
              have f2 := hA.frozen 2
              have lA := hA.lt
              have lN := hN.lt
              go_simp
              refine hK.out _ _ (by (repeat' (first | (with_reducible exact Below.refl _ _) | (with_reducible refine Below.setCell ?_ (by (first | omega | (simp; done) | (simp; omega))) _) | (with_reducible refine Below.alloc ?_ (by (first | omega | (simp; done) | (simp; omega))) _) | (with_reducible refine Below.drew ?_) | (with_reducible refine below_drewN ?_ _) | (with_reducible refine Below.trans ?_ (Below.mono hHeld (by (first | omega | (simp; done) | (simp; omega)))))))) (fun hHeld => ?_)
              clear hK K
              clear e0 e1 e2 f0 f1 f2
              refine any_named (fun W => Below W0.heap.size W0 W ∧ Blk W v0.heap.size TD [.slice AR k cR, .int .i64 ag, .int .i64 dl] ∧ Blk W v3.heap.size TD [.slice none 0 0, .int .i64 0, .int .i64 0] ∧ RowG.Own encX TX W W0.heap.size (.slice AR k cR) l ∧ RowG.Own encX TX W W0.heap.size (.slice AQ k cQ) l) ⟨hHeld, by (repeat' (first | (with_reducible exact hA) | (with_reducible refine BlkP.Blk.drew ?_) | (with_reducible refine BlkP.Blk.drewN ?_ _) | (with_reducible refine BlkP.Blk.setAt (us := ?_) (by first | omega | (simp; done) | (simp; omega)) rfl ?_ ?_) | (with_reducible refine BlkP.Blk.otherAt ?_ (by first | omega | (simp; done) | (simp; omega))) | (with_reducible refine BlkP.Blk.newA' (by first | omega | (simp; done) | (simp; omega)) rfl) | (with_reducible refine BlkP.Blk.alloc ?_ _) | (exact rfl))), by (repeat' (first | (with_reducible exact hN) | (with_reducible refine BlkP.Blk.drew ?_) | (with_reducible refine BlkP.Blk.drewN ?_ _) | (with_reducible refine BlkP.Blk.setAt (us := ?_) (by first | omega | (simp; done) | (simp; omega)) rfl ?_ ?_) | (with_reducible refine BlkP.Blk.otherAt ?_ (by first | omega | (simp; done) | (simp; omega))) | (with_reducible refine BlkP.Blk.newA' (by first | omega | (simp; done) | (simp; omega)) rfl) | (with_reducible refine BlkP.Blk.alloc ?_ _) | (exact rfl))), by first | exact own_set3 hR hA | exact own_set3 hR.drew hA.drew, by first | exact own_set3 hQ hA | exact own_set3 hQ.drew hA.drew⟩ ?_
              clear hHeld hA hN hR hQ
              rintro v5 ⟨hHeld, hA, hN, hR, hQ⟩
              have hSv5 := hHeld.size
              refine wpAnyH_ready (rs := [7]) (by kernel_rfl) (by simp) ?_
              refine AllReadyH.cons (o := ⟨none, _, _, _, _, _⟩) rfl (fun K hK => ?_) ?_
              · have e0 := hN.cell (i := 0) (v := .slice none 0 0) rfl
                have f0 := hN.frozen 0
                have e1 := hN.cell (i := 1) (v := .int .i64 0) rfl
                have f1 := hN.frozen 1
                have e2 := hN.cell (i := 2) (v := .int .i64 0) rfl
                have f2 := hN.frozen 2
                have lA := hA.lt
                have lN := hN.lt
                go_simp
                refine hK.out _ _ (by (repeat' (first | (with_reducible exact Below.refl _ _) | (with_reducible refine Below.setCell ?_ (by (first | omega | (simp; done) | (simp; omega))) _) | (with_reducible refine Below.alloc ?_ (by (first | omega | (simp; done) | (simp; omega))) _) | (with_reducible refine Below.drew ?_) | (with_reducible refine below_drewN ?_ _) | (with_reducible refine Below.trans ?_ (Below.mono hHeld (by (first | omega | (simp; done) | (simp; omega)))))))) (fun hHeld => ?_)
                clear hK K
                clear e0 e1 e2 f0 f1 f2
                refine any_named (fun W => Below W0.heap.size W0 W ∧ Blk W v0.heap.size TD [.slice AR k cR, .int .i64 ag, .int .i64 dl] ∧ Blk W v3.heap.size TD [.slice AQ k cQ, .int .i64 ag, .int .i64 dl] ∧ RowG.Own encX TX W W0.heap.size (.slice AR k cR) l ∧ RowG.Own encX TX W W0.heap.size (.slice AQ k cQ) l) ⟨hHeld, by (repeat' (first | (with_reducible exact hA) | (with_reducible refine BlkP.Blk.drew ?_) | (with_reducible refine BlkP.Blk.drewN ?_ _) | (with_reducible refine BlkP.Blk.setAt (us := ?_) (by first | omega | (simp; done) | (simp; omega)) rfl ?_ ?_) | (with_reducible refine BlkP.Blk.otherAt ?_ (by first | omega | (simp; done) | (simp; omega))) | (with_reducible refine BlkP.Blk.newA' (by first | omega | (simp; done) | (simp; omega)) rfl) | (with_reducible refine BlkP.Blk.alloc ?_ _) | (exact rfl))), by (repeat' (first | (with_reducible exact hN) | (with_reducible refine BlkP.Blk.drew ?_) | (with_reducible refine BlkP.Blk.drewN ?_ _) | (with_reducible refine BlkP.Blk.setAt (us := ?_) (by first | omega | (simp; done) | (simp; omega)) rfl ?_ ?_) | (with_reducible refine BlkP.Blk.otherAt ?_ (by first | omega | (simp; done) | (simp; omega))) | (with_reducible refine BlkP.Blk.newA' (by first | omega | (simp; done) | (simp; omega)) rfl) | (with_reducible refine BlkP.Blk.alloc ?_ _) | (exact rfl))), by first | exact own_set3 hR hN | exact own_set3 hR.drew hN.drew, by first | exact own_set3 hQ hN | exact own_set3 hQ.drew hN.drew⟩ ?_
                clear hHeld hA hN hR hQ
                rintro v6 ⟨hHeld, hA, hN, hR, hQ⟩
                have hSv6 := hHeld.size
                refine wpAnyH_done (by kernel_rfl) ?_ _
                refine NoPanic.normal ?_
                go_wp2_with fail
                go_meet
                case rel =>
                  exact ⟨v0.heap.size, v3.heap.size, AR, cR, AQ, cQ, rfl, rfl, by omega, by omega, by omega, hA, hN, hR, hQ, hDIF, hHeld⟩
              exact AllReadyH.nil
            exact AllReadyH.nil
          exact AllReadyH.nil
        refine AllReadyH.cons (o := ⟨some 7, _, _, _, _, _⟩) rfl (fun K hK => ?_) ?_
        · go_simp
          refine hK.out _ _ (hHeld.alloc hHeld.size _) (fun hHeld => ?_)
          clear hK K
          have lA := hA.lt
          refine any_named (fun W => Below W0.heap.size W0 W ∧ Blk W v0.heap.size TD [.slice none 0 0, .int .i64 0, .int .i64 0] ∧ Blk W v2.heap.size TD [.slice none 0 0, .int .i64 0, .int .i64 0] ∧ RowG.Own encX TX W W0.heap.size (.slice AR k cR) l) ⟨hHeld, by (repeat' (first | (with_reducible exact hA) | (with_reducible refine BlkP.Blk.drew ?_) | (with_reducible refine BlkP.Blk.drewN ?_ _) | (with_reducible refine BlkP.Blk.setAt (us := ?_) (by first | omega | (simp; done) | (simp; omega)) rfl ?_ ?_) | (with_reducible refine BlkP.Blk.otherAt ?_ (by first | omega | (simp; done) | (simp; omega))) | (with_reducible refine BlkP.Blk.newA' (by first | omega | (simp; done) | (simp; omega)) rfl) | (with_reducible refine BlkP.Blk.alloc ?_ _) | (exact rfl))), by (repeat' (first | (with_reducible refine BlkP.Blk.drew ?_) | (with_reducible refine BlkP.Blk.drewN ?_ _) | (with_reducible refine BlkP.Blk.setAt (us := ?_) (by first | omega | (simp; done) | (simp; omega)) rfl ?_ ?_) | (with_reducible refine BlkP.Blk.otherAt ?_ (by first | omega | (simp; done) | (simp; omega))) | (with_reducible refine BlkP.Blk.newA' (by first | omega | (simp; done) | (simp; omega)) rfl) | (with_reducible refine BlkP.Blk.alloc ?_ _) | (exact rfl))), hR.below (by (repeat' (first | (with_reducible exact Below.refl _ _) | (with_reducible refine Below.setCell ?_ (by (first | omega | (simp; done) | (simp; omega))) _) | (with_reducible refine Below.alloc ?_ (by (first | omega | (simp; done) | (simp; omega))) _) | (with_reducible refine Below.drew ?_) | (with_reducible refine below_drewN ?_ _))))⟩ ?_
          clear hHeld hA hR
          rintro v3 ⟨hHeld, hA, hN, hR⟩
          have hSv3 := hHeld.size
          refine wpAnyH_ready (rs := [3]) (by kernel_rfl) (by simp) ?_
          refine AllReadyH.cons (o := ⟨some 14, _, _, _, _, _⟩) rfl (fun K hK => ?_) ?_
          · have hHeld0 := hHeld.size
            go_simp
            refine (Next_q (HT.out.below (below_t HB0.out hHeld)) H8.out HDR.out hd2 HL.out).mono ?_
            rintro e wf ⟨vf, rfl, hof, hbf⟩
            obtain ⟨AQ, cQ, rfl, _, _, _⟩ := hof.form HK.out
            have hDIF : ∀ g, (Value.slice AR k cR).ownBlock = some g → (Value.slice AQ k cQ).ownBlock ≠ some g := fun g h1 h2 => absurd (Nat.lt_of_lt_of_le (hR.ge g h1).2 (hof.ge g h2).1) (Nat.lt_irrefl _)
            go_wp2_with fail
            refine hK.out _ _ (below_t hHeld hbf) (fun hHeld => ?_)
            clear hK K
            refine any_named (fun W => Below W0.heap.size W0 W ∧ Blk W v0.heap.size TD [.slice none 0 0, .int .i64 0, .int .i64 0] ∧ Blk W v2.heap.size TD [.slice none 0 0, .int .i64 0, .int .i64 0] ∧ RowG.Own encX TX W W0.heap.size (.slice AR k cR) l ∧ RowG.Own encX TX W W0.heap.size (.slice AQ k cQ) l) ⟨hHeld, hA.below hbf, hN.below hbf, hR.below hbf, hof.mono (show W0.heap.size ≤ _ from hHeld0)⟩ ?_
            clear hHeld hA hN hR
            rintro v4 ⟨hHeld, hA, hN, hR, hQ⟩
            have hSv4 := hHeld.size
            clear hof hbf
            refine wpAnyH_ready (rs := [6]) (by kernel_rfl) (by simp) ?_
            refine AllReadyH.cons (o := ⟨none, _, _, _, _, _⟩) rfl (fun K hK => ?_) ?_
            · have e0 := hA.cell (i := 0) (v := .slice none 0 0) rfl
              have f0 := hA.frozen 0
              have e1 := hA.cell (i := 1) (v := .int .i64 0) rfl
              have f1 := hA.frozen 1
              have e2 := hA.cell (i := 2) (v := .int .i64 0) rfl
              have f2 := hA.frozen 2
              have lA := hA.lt
              have lN := hN.lt
              go_simp
              refine hK.out _ _ (by (repeat' (first | (with_reducible exact Below.refl _ _) | (with_reducible refine Below.setCell ?_ (by (first | omega | (simp; done) | (simp; omega))) _) | (with_reducible refine Below.alloc ?_ (by (first | omega | (simp; done) | (simp; omega))) _) | (with_reducible refine Below.drew ?_) | (with_reducible refine below_drewN ?_ _) | (with_reducible refine Below.trans ?_ (Below.mono hHeld (by (first | omega | (simp; done) | (simp; omega)))))))) (fun hHeld => ?_)
              clear hK K
              clear e0 e1 e2 f0 f1 f2
              refine any_named (fun W => Below W0.heap.size W0 W ∧ Blk W v0.heap.size TD [.slice AR k cR, .int .i64 ag, .int .i64 dl] ∧ Blk W v2.heap.size TD [.slice none 0 0, .int .i64 0, .int .i64 0] ∧ RowG.Own encX TX W W0.heap.size (.slice AR k cR) l ∧ RowG.Own encX TX W W0.heap.size (.slice AQ k cQ) l) ⟨hHeld, by (repeat' (first | (with_reducible exact hA) | (with_reducible refine BlkP.Blk.drew ?_) | (with_reducible refine BlkP.Blk.drewN ?_ _) | (with_reducible refine BlkP.Blk.setAt (us := ?_) (by first | omega | (simp; done) | (simp; omega)) rfl ?_ ?_) | (with_reducible refine BlkP.Blk.otherAt ?_ (by first | omega | (simp; done) | (simp; omega))) | (with_reducible refine BlkP.Blk.newA' (by first | omega | (simp; done) | (simp; omega)) rfl) | (with_reducible refine BlkP.Blk.alloc ?_ _) | (exact rfl))), by (repeat' (first | (with_reducible exact hN) | (with_reducible refine BlkP.Blk.drew ?_) | (with_reducible refine BlkP.Blk.drewN ?_ _) | (with_reducible refine BlkP.Blk.setAt (us := ?_) (by first | omega | (simp; done) | (simp; omega)) rfl ?_ ?_) | (with_reducible refine BlkP.Blk.otherAt ?_ (by first | omega | (simp; done) | (simp; omega))) | (with_reducible refine BlkP.Blk.newA' (by first | omega | (simp; done) | (simp; omega)) rfl) | (with_reducible refine BlkP.Blk.alloc ?_ _) | (exact rfl))), by first | exact own_set3 hR hA | exact own_set3 hR.drew hA.drew, by first | exact own_set3 hQ hA | exact own_set3 hQ.drew hA.drew⟩ ?_
              clear hHeld hA hN hR hQ
              rintro v5 ⟨hHeld, hA, hN, hR, hQ⟩
              have hSv5 := hHeld.size
              refine wpAnyH_ready (rs := [7]) (by kernel_rfl) (by simp) ?_
              refine AllReadyH.cons (o := ⟨none, _, _, _, _, _⟩) rfl (fun K hK => ?_) ?_
              · have e0 := hN.cell (i := 0) (v := .slice none 0 0) rfl
                have f0 := hN.frozen 0
                have e1 := hN.cell (i := 1) (v := .int .i64 0) rfl
                have f1 := hN.frozen 1
                have e2 := hN.cell (i := 2) (v := .int .i64 0) rfl
                have f2 := hN.frozen 2
                have lA := hA.lt
                have lN := hN.lt
                go_simp
                refine hK.out _ _ (by (repeat' (first | (with_reducible exact Below.refl _ _) | (with_reducible refine Below.setCell ?_ (by (first | omega | (simp; done) | (simp; omega))) _) | (with_reducible refine Below.alloc ?_ (by (first | omega | (simp; done) | (simp; omega))) _) | (with_reducible refine Below.drew ?_) | (with_reducible refine below_drewN ?_ _) | (with_reducible refine Below.trans ?_ (Below.mono hHeld (by (first | omega | (simp; done) | (simp; omega)))))))) (fun hHeld => ?_)
                clear hK K
                clear e0 e1 e2 f0 f1 f2
                refine any_named (fun W => Below W0.heap.size W0 W ∧ Blk W v0.heap.size TD [.slice AR k cR, .int .i64 ag, .int .i64 dl] ∧ Blk W v2.heap.size TD [.slice AQ k cQ, .int .i64 ag, .int .i64 dl] ∧ RowG.Own encX TX W W0.heap.size (.slice AR k cR) l ∧ RowG.Own encX TX W W0.heap.size (.slice AQ k cQ) l) ⟨hHeld, by (repeat' (first | (with_reducible exact hA) | (with_reducible refine BlkP.Blk.drew ?_) | (with_reducible refine BlkP.Blk.drewN ?_ _) | (with_reducible refine BlkP.Blk.setAt (us := ?_) (by first | omega | (simp; done) | (simp; omega)) rfl ?_ ?_) | (with_reducible refine BlkP.Blk.otherAt ?_ (by first | omega | (simp; done) | (simp; omega))) | (with_reducible refine BlkP.Blk.newA' (by first | omega | (simp; done) | (simp; omega)) rfl) | (with_reducible refine BlkP.Blk.alloc ?_ _) | (exact rfl))), by (repeat' (first | (with_reducible exact hN) | (with_reducible refine BlkP.Blk.drew ?_) | (with_reducible refine BlkP.Blk.drewN ?_ _) | (with_reducible refine BlkP.Blk.setAt (us := ?_) (by first | omega | (simp; done) | (simp; omega)) rfl ?_ ?_) | (with_reducible refine BlkP.Blk.otherAt ?_ (by first | omega | (simp; done) | (simp; omega))) | (with_reducible refine BlkP.Blk.newA' (by first | omega | (simp; done) | (simp; omega)) rfl) | (with_reducible refine BlkP.Blk.alloc ?_ _) | (exact rfl))), by first | exact own_set3 hR hN | exact own_set3 hR.drew hN.drew, by first | exact own_set3 hQ hN | exact own_set3 hQ.drew hN.drew⟩ ?_
                clear hHeld hA hN hR hQ
                rintro v6 ⟨hHeld, hA, hN, hR, hQ⟩
                have hSv6 := hHeld.size
                refine wpAnyH_done (by kernel_rfl) ?_ _
                refine NoPanic.normal ?_
                go_wp2_with fail
                go_meet
                case rel =>
                  exact ⟨v0.heap.size, v2.heap.size, AR, cR, AQ, cQ, rfl, rfl, by omega, by omega, by omega, hA, hN, hR, hQ, hDIF, hHeld⟩
              exact AllReadyH.nil
            exact AllReadyH.nil
          exact AllReadyH.nil
        exact AllReadyH.nil
      refine AllReadyH.cons (o := ⟨some 7, _, _, _, _, _⟩) rfl (fun K hK => ?_) ?_
      · go_simp
        refine hK.out _ _ (hHeld.alloc hHeld.size _) (fun hHeld => ?_)
        clear hK K
        have lA := hA.lt
        refine any_named (fun W => Below W0.heap.size W0 W ∧ Blk W v0.heap.size TD [.slice none 0 0, .int .i64 0, .int .i64 0] ∧ Blk W v1.heap.size TD [.slice none 0 0, .int .i64 0, .int .i64 0]) ⟨hHeld, by (repeat' (first | (with_reducible exact hA) | (with_reducible refine BlkP.Blk.drew ?_) | (with_reducible refine BlkP.Blk.drewN ?_ _) | (with_reducible refine BlkP.Blk.setAt (us := ?_) (by first | omega | (simp; done) | (simp; omega)) rfl ?_ ?_) | (with_reducible refine BlkP.Blk.otherAt ?_ (by first | omega | (simp; done) | (simp; omega))) | (with_reducible refine BlkP.Blk.newA' (by first | omega | (simp; done) | (simp; omega)) rfl) | (with_reducible refine BlkP.Blk.alloc ?_ _) | (exact rfl))), by (repeat' (first | (with_reducible refine BlkP.Blk.drew ?_) | (with_reducible refine BlkP.Blk.drewN ?_ _) | (with_reducible refine BlkP.Blk.setAt (us := ?_) (by first | omega | (simp; done) | (simp; omega)) rfl ?_ ?_) | (with_reducible refine BlkP.Blk.otherAt ?_ (by first | omega | (simp; done) | (simp; omega))) | (with_reducible refine BlkP.Blk.newA' (by first | omega | (simp; done) | (simp; omega)) rfl) | (with_reducible refine BlkP.Blk.alloc ?_ _) | (exact rfl)))⟩ ?_
        clear hHeld hA
        rintro v2 ⟨hHeld, hA, hN⟩
        have hSv2 := hHeld.size
        refine wpAnyH_ready (rs := [1]) (by kernel_rfl) (by simp) ?_
        refine AllReadyH.cons (o := ⟨some 12, _, _, _, _, _⟩) rfl (fun K hK => ?_) ?_
        · have hHeld0 := hHeld.size
          go_simp
          refine (Next_q (HT.out.below (below_t HB0.out hHeld)) H8.out HDR.out hd2 HL.out).mono ?_
          rintro e wf ⟨vf, rfl, hof, hbf⟩
          obtain ⟨AR, cR, rfl, _, _, _⟩ := hof.form HK.out
          go_wp2_with fail
          refine hK.out _ _ (below_t hHeld hbf) (fun hHeld => ?_)
          clear hK K
          refine any_named (fun W => Below W0.heap.size W0 W ∧ Blk W v0.heap.size TD [.slice none 0 0, .int .i64 0, .int .i64 0] ∧ Blk W v1.heap.size TD [.slice none 0 0, .int .i64 0, .int .i64 0] ∧ RowG.Own encX TX W W0.heap.size (.slice AR k cR) l) ⟨hHeld, hA.below hbf, hN.below hbf, hof.mono (show W0.heap.size ≤ _ from hHeld0)⟩ ?_
          clear hHeld hA hN
          rintro v3 ⟨hHeld, hA, hN, hR⟩
          have hSv3 := hHeld.size
          clear hof hbf
          refine wpAnyH_ready (rs := [3]) (by kernel_rfl) (by simp) ?_
          refine AllReadyH.cons (o := ⟨some 14, _, _, _, _, _⟩) rfl (fun K hK => ?_) ?_
          · have hHeld0 := hHeld.size
            go_simp
            refine (Next_q (HT.out.below (below_t HB0.out hHeld)) H8.out HDR.out hd2 HL.out).mono ?_
            rintro e wf ⟨vf, rfl, hof, hbf⟩
            obtain ⟨AQ, cQ, rfl, _, _, _⟩ := hof.form HK.out
            have hDIF : ∀ g, (Value.slice AR k cR).ownBlock = some g → (Value.slice AQ k cQ).ownBlock ≠ some g := fun g h1 h2 => absurd (Nat.lt_of_lt_of_le (hR.ge g h1).2 (hof.ge g h2).1) (Nat.lt_irrefl _)
            go_wp2_with fail
            refine hK.out _ _ (below_t hHeld hbf) (fun hHeld => ?_)
            clear hK K
            refine any_named (fun W => Below W0.heap.size W0 W ∧ Blk W v0.heap.size TD [.slice none 0 0, .int .i64 0, .int .i64 0] ∧ Blk W v1.heap.size TD [.slice none 0 0, .int .i64 0, .int .i64 0] ∧ RowG.Own encX TX W W0.heap.size (.slice AR k cR) l ∧ RowG.Own encX TX W W0.heap.size (.slice AQ k cQ) l) ⟨hHeld, hA.below hbf, hN.below hbf, hR.below hbf, hof.mono (show W0.heap.size ≤ _ from hHeld0)⟩ ?_
            clear hHeld hA hN hR
            rintro v4 ⟨hHeld, hA, hN, hR, hQ⟩
            have hSv4 := hHeld.size
            clear hof hbf
            refine wpAnyH_ready (rs := [6]) (by kernel_rfl) (by simp) ?_
            refine AllReadyH.cons (o := ⟨none, _, _, _, _, _⟩) rfl (fun K hK => ?_) ?_
            · have e0 := hA.cell (i := 0) (v := .slice none 0 0) rfl
              have f0 := hA.frozen 0
              have e1 := hA.cell (i := 1) (v := .int .i64 0) rfl
              have f1 := hA.frozen 1
              have e2 := hA.cell (i := 2) (v := .int .i64 0) rfl
              have f2 := hA.frozen 2
              have lA := hA.lt
              have lN := hN.lt
              go_simp
              refine hK.out _ _ (by (repeat' (first | (with_reducible exact Below.refl _ _) | (with_reducible refine Below.setCell ?_ (by (first | omega | (simp; done) | (simp; omega))) _) | (with_reducible refine Below.alloc ?_ (by (first | omega | (simp; done) | (simp; omega))) _) | (with_reducible refine Below.drew ?_) | (with_reducible refine below_drewN ?_ _) | (with_reducible refine Below.trans ?_ (Below.mono hHeld (by (first | omega | (simp; done) | (simp; omega)))))))) (fun hHeld => ?_)
              clear hK K
              clear e0 e1 e2 f0 f1 f2
              refine any_named (fun W => Below W0.heap.size W0 W ∧ Blk W v0.heap.size TD [.slice AR k cR, .int .i64 ag, .int .i64 dl] ∧ Blk W v1.heap.size TD [.slice none 0 0, .int .i64 0, .int .i64 0] ∧ RowG.Own encX TX W W0.heap.size (.slice AR k cR) l ∧ RowG.Own encX TX W W0.heap.size (.slice AQ k cQ) l) ⟨hHeld, by (repeat' (first | (with_reducible exact hA) | (with_reducible refine BlkP.Blk.drew ?_) | (with_reducible refine BlkP.Blk.drewN ?_ _) | (with_reducible refine BlkP.Blk.setAt (us := ?_) (by first | omega | (simp; done) | (simp; omega)) rfl ?_ ?_) | (with_reducible refine BlkP.Blk.otherAt ?_ (by first | omega | (simp; done) | (simp; omega))) | (with_reducible refine BlkP.Blk.newA' (by first | omega | (simp; done) | (simp; omega)) rfl) | (with_reducible refine BlkP.Blk.alloc ?_ _) | (exact rfl))), by (repeat' (first | (with_reducible exact hN) | (with_reducible refine BlkP.Blk.drew ?_) | (with_reducible refine BlkP.Blk.drewN ?_ _) | (with_reducible refine BlkP.Blk.setAt (us := ?_) (by first | omega | (simp; done) | (simp; omega)) rfl ?_ ?_) | (with_reducible refine BlkP.Blk.otherAt ?_ (by first | omega | (simp; done) | (simp; omega))) | (with_reducible refine BlkP.Blk.newA' (by first | omega | (simp; done) | (simp; omega)) rfl) | (with_reducible refine BlkP.Blk.alloc ?_ _) | (exact rfl))), by first | exact own_set3 hR hA | exact own_set3 hR.drew hA.drew, by first | exact own_set3 hQ hA | exact own_set3 hQ.drew hA.drew⟩ ?_
              clear hHeld hA hN hR hQ
              rintro v5 ⟨hHeld, hA, hN, hR, hQ⟩
              have hSv5 := hHeld.size
              refine wpAnyH_ready (rs := [7]) (by kernel_rfl) (by simp) ?_
              refine AllReadyH.cons (o := ⟨none, _, _, _, _, _⟩) rfl (fun K hK => ?_) ?_
              · have e0 := hN.cell (i := 0) (v := .slice none 0 0) rfl
                have f0 := hN.frozen 0
                have e1 := hN.cell (i := 1) (v := .int .i64 0) rfl
                have f1 := hN.frozen 1
                have e2 := hN.cell (i := 2) (v := .int .i64 0) rfl
                have f2 := hN.frozen 2
                have lA := hA.lt
                have lN := hN.lt
                go_simp
                refine hK.out _ _ (by (repeat' (first | (with_reducible exact Below.refl _ _) | (with_reducible refine Below.setCell ?_ (by (first | omega | (simp; done) | (simp; omega))) _) | (with_reducible refine Below.alloc ?_ (by (first | omega | (simp; done) | (simp; omega))) _) | (with_reducible refine Below.drew ?_) | (with_reducible refine below_drewN ?_ _) | (with_reducible refine Below.trans ?_ (Below.mono hHeld (by (first | omega | (simp; done) | (simp; omega)))))))) (fun hHeld => ?_)
                clear hK K
                clear e0 e1 e2 f0 f1 f2
                refine any_named (fun W => Below W0.heap.size W0 W ∧ Blk W v0.heap.size TD [.slice AR k cR, .int .i64 ag, .int .i64 dl] ∧ Blk W v1.heap.size TD [.slice AQ k cQ, .int .i64 ag, .int .i64 dl] ∧ RowG.Own encX TX W W0.heap.size (.slice AR k cR) l ∧ RowG.Own encX TX W W0.heap.size (.slice AQ k cQ) l) ⟨hHeld, by (repeat' (first | (with_reducible exact hA) | (with_reducible refine BlkP.Blk.drew ?_) | (with_reducible refine BlkP.Blk.drewN ?_ _) | (with_reducible refine BlkP.Blk.setAt (us := ?_) (by first | omega | (simp; done) | (simp; omega)) rfl ?_ ?_) | (with_reducible refine BlkP.Blk.otherAt ?_ (by first | omega | (simp; done) | (simp; omega))) | (with_reducible refine BlkP.Blk.newA' (by first | omega | (simp; done) | (simp; omega)) rfl) | (with_reducible refine BlkP.Blk.alloc ?_ _) | (exact rfl))), by (repeat' (first | (with_reducible exact hN) | (with_reducible refine BlkP.Blk.drew ?_) | (with_reducible refine BlkP.Blk.drewN ?_ _) | (with_reducible refine BlkP.Blk.setAt (us := ?_) (by first | omega | (simp; done) | (simp; omega)) rfl ?_ ?_) | (with_reducible refine BlkP.Blk.otherAt ?_ (by first | omega | (simp; done) | (simp; omega))) | (with_reducible refine BlkP.Blk.newA' (by first | omega | (simp; done) | (simp; omega)) rfl) | (with_reducible refine BlkP.Blk.alloc ?_ _) | (exact rfl))), by first | exact own_set3 hR hN | exact own_set3 hR.drew hN.drew, by first | exact own_set3 hQ hN | exact own_set3 hQ.drew hN.drew⟩ ?_
                clear hHeld hA hN hR hQ
                rintro v6 ⟨hHeld, hA, hN, hR, hQ⟩
                have hSv6 := hHeld.size
                refine wpAnyH_done (by kernel_rfl) ?_ _
                refine NoPanic.normal ?_
                go_wp2_with fail
                go_meet
                case rel =>
                  exact ⟨v0.heap.size, v1.heap.size, AR, cR, AQ, cQ, rfl, rfl, by omega, by omega, by omega, hA, hN, hR, hQ, hDIF, hHeld⟩
              exact AllReadyH.nil
            exact AllReadyH.nil
          exact AllReadyH.nil
        exact AllReadyH.nil
      exact AllReadyH.nil
    refine AllReadyH.cons (o := ⟨some 7, _, _, _, _, _⟩) rfl (fun K hK => ?_) ?_
    · go_simp
      refine hK.out _ _ (hHeld.alloc hHeld.size _) (fun hHeld => ?_)
      clear hK K
      refine any_named (fun W => Below W0.heap.size W0 W ∧ Blk W v0.heap.size TD [.slice none 0 0, .int .i64 0, .int .i64 0]) ⟨hHeld, by (repeat' (first | (with_reducible refine BlkP.Blk.drew ?_) | (with_reducible refine BlkP.Blk.drewN ?_ _) | (with_reducible refine BlkP.Blk.setAt (us := ?_) (by first | omega | (simp; done) | (simp; omega)) rfl ?_ ?_) | (with_reducible refine BlkP.Blk.otherAt ?_ (by first | omega | (simp; done) | (simp; omega))) | (with_reducible refine BlkP.Blk.newA' (by first | omega | (simp; done) | (simp; omega)) rfl) | (with_reducible refine BlkP.Blk.alloc ?_ _) | (exact rfl)))⟩ ?_
      clear hHeld
      rintro v1 ⟨hHeld, hN⟩
      have hSv1 := hHeld.size
      refine wpAnyH_ready (rs := [1, 4]) (by kernel_rfl) (by simp) ?_
      refine AllReadyH.cons (o := ⟨some 12, _, _, _, _, _⟩) rfl (fun K hK => ?_) ?_
      · have hHeld0 := hHeld.size
        go_simp
        refine (Next_q (HT.out.below (below_t HB0.out hHeld)) H8.out HDR.out hd2 HL.out).mono ?_
        rintro e wf ⟨vf, rfl, hof, hbf⟩
        obtain ⟨AR, cR, rfl, _, _, _⟩ := hof.form HK.out
        go_wp2_with fail
        refine hK.out _ _ (below_t hHeld hbf) (fun hHeld => ?_)
        clear hK K
        refine any_named (fun W => Below W0.heap.size W0 W ∧ Blk W v0.heap.size TD [.slice none 0 0, .int .i64 0, .int .i64 0] ∧ RowG.Own encX TX W W0.heap.size (.slice AR k cR) l) ⟨hHeld, hN.below hbf, hof.mono (show W0.heap.size ≤ _ from hHeld0)⟩ ?_
        clear hHeld hN
        rintro v2 ⟨hHeld, hN, hR⟩
        have hSv2 := hHeld.size
        clear hof hbf
        refine wpAnyH_ready (rs := [3, 4]) (by kernel_rfl) (by simp) ?_
        refine AllReadyH.cons (o := ⟨some 14, _, _, _, _, _⟩) rfl (fun K hK => ?_) ?_
        · have hHeld0 := hHeld.size
          go_simp
          refine (Next_q (HT.out.below (below_t HB0.out hHeld)) H8.out HDR.out hd2 HL.out).mono ?_
          rintro e wf ⟨vf, rfl, hof, hbf⟩
          obtain ⟨AQ, cQ, rfl, _, _, _⟩ := hof.form HK.out
          have hDIF : ∀ g, (Value.slice AR k cR).ownBlock = some g → (Value.slice AQ k cQ).ownBlock ≠ some g := fun g h1 h2 => absurd (Nat.lt_of_lt_of_le (hR.ge g h1).2 (hof.ge g h2).1) (Nat.lt_irrefl _)
          go_wp2_with fail
          refine hK.out _ _ (below_t hHeld hbf) (fun hHeld => ?_)
          clear hK K
          refine any_named (fun W => Below W0.heap.size W0 W ∧ Blk W v0.heap.size TD [.slice none 0 0, .int .i64 0, .int .i64 0] ∧ RowG.Own encX TX W W0.heap.size (.slice AR k cR) l ∧ RowG.Own encX TX W W0.heap.size (.slice AQ k cQ) l) ⟨hHeld, hN.below hbf, hR.below hbf, hof.mono (show W0.heap.size ≤ _ from hHeld0)⟩ ?_
          clear hHeld hN hR
          rintro v3 ⟨hHeld, hN, hR, hQ⟩
          have hSv3 := hHeld.size
          clear hof hbf
          refine wpAnyH_ready (rs := [4]) (by kernel_rfl) (by simp) ?_
          refine AllReadyH.cons (o := ⟨some 6, _, _, _, _, _⟩) rfl (fun K hK => ?_) ?_
          · go_simp
            refine hK.out _ _ (hHeld.alloc hHeld.size _) (fun hHeld => ?_)
            clear hK K
            have lN := hN.lt
            refine any_named (fun W => Below W0.heap.size W0 W ∧ Blk W v3.heap.size TD [.slice none 0 0, .int .i64 0, .int .i64 0] ∧ Blk W v0.heap.size TD [.slice none 0 0, .int .i64 0, .int .i64 0] ∧ RowG.Own encX TX W W0.heap.size (.slice AR k cR) l ∧ RowG.Own encX TX W W0.heap.size (.slice AQ k cQ) l) ⟨hHeld, by (repeat' (first | (with_reducible refine BlkP.Blk.drew ?_) | (with_reducible refine BlkP.Blk.drewN ?_ _) | (with_reducible refine BlkP.Blk.setAt (us := ?_) (by first | omega | (simp; done) | (simp; omega)) rfl ?_ ?_) | (with_reducible refine BlkP.Blk.otherAt ?_ (by first | omega | (simp; done) | (simp; omega))) | (with_reducible refine BlkP.Blk.newA' (by first | omega | (simp; done) | (simp; omega)) rfl) | (with_reducible refine BlkP.Blk.alloc ?_ _) | (exact rfl))), by (repeat' (first | (with_reducible exact hN) | (with_reducible refine BlkP.Blk.drew ?_) | (with_reducible refine BlkP.Blk.drewN ?_ _) | (with_reducible refine BlkP.Blk.setAt (us := ?_) (by first | omega | (simp; done) | (simp; omega)) rfl ?_ ?_) | (with_reducible refine BlkP.Blk.otherAt ?_ (by first | omega | (simp; done) | (simp; omega))) | (with_reducible refine BlkP.Blk.newA' (by first | omega | (simp; done) | (simp; omega)) rfl) | (with_reducible refine BlkP.Blk.alloc ?_ _) | (exact rfl))), hR.below (by (repeat' (first | (with_reducible exact Below.refl _ _) | (with_reducible refine Below.setCell ?_ (by (first | omega | (simp; done) | (simp; omega))) _) | (with_reducible refine Below.alloc ?_ (by (first | omega | (simp; done) | (simp; omega))) _) | (with_reducible refine Below.drew ?_) | (with_reducible refine below_drewN ?_ _)))), hQ.below (by (repeat' (first | (with_reducible exact Below.refl _ _) | (with_reducible refine Below.setCell ?_ (by (first | omega | (simp; done) | (simp; omega))) _) | (with_reducible refine Below.alloc ?_ (by (first | omega | (simp; done) | (simp; omega))) _) | (with_reducible refine Below.drew ?_) | (with_reducible refine below_drewN ?_ _))))⟩ ?_
            clear hHeld hN hR hQ
            rintro v4 ⟨hHeld, hA, hN, hR, hQ⟩
            have hSv4 := hHeld.size
            refine wpAnyH_ready (rs := [6]) (by kernel_rfl) (by simp) ?_
            refine AllReadyH.cons (o := ⟨none, _, _, _, _, _⟩) rfl (fun K hK => ?_) ?_
            · have e0 := hA.cell (i := 0) (v := .slice none 0 0) rfl
              have f0 := hA.frozen 0
              have e1 := hA.cell (i := 1) (v := .int .i64 0) rfl
              have f1 := hA.frozen 1
              have e2 := hA.cell (i := 2) (v := .int .i64 0) rfl
              have f2 := hA.frozen 2
              have lA := hA.lt
              have lN := hN.lt
              go_simp
              refine hK.out _ _ (by (repeat' (first | (with_reducible exact Below.refl _ _) | (with_reducible refine Below.setCell ?_ (by (first | omega | (simp; done) | (simp; omega))) _) | (with_reducible refine Below.alloc ?_ (by (first | omega | (simp; done) | (simp; omega))) _) | (with_reducible refine Below.drew ?_) | (with_reducible refine below_drewN ?_ _) | (with_reducible refine Below.trans ?_ (Below.mono hHeld (by (first | omega | (simp; done) | (simp; omega)))))))) (fun hHeld => ?_)
              clear hK K
              clear e0 e1 e2 f0 f1 f2
              refine any_named (fun W => Below W0.heap.size W0 W ∧ Blk W v3.heap.size TD [.slice AR k cR, .int .i64 ag, .int .i64 dl] ∧ Blk W v0.heap.size TD [.slice none 0 0, .int .i64 0, .int .i64 0] ∧ RowG.Own encX TX W W0.heap.size (.slice AR k cR) l ∧ RowG.Own encX TX W W0.heap.size (.slice AQ k cQ) l) ⟨hHeld, by (repeat' (first | (with_reducible exact hA) | (with_reducible refine BlkP.Blk.drew ?_) | (with_reducible refine BlkP.Blk.drewN ?_ _) | (with_reducible refine BlkP.Blk.setAt (us := ?_) (by first | omega | (simp; done) | (simp; omega)) rfl ?_ ?_) | (with_reducible refine BlkP.Blk.otherAt ?_ (by first | omega | (simp; done) | (simp; omega))) | (with_reducible refine BlkP.Blk.newA' (by first | omega | (simp; done) | (simp; omega)) rfl) | (with_reducible refine BlkP.Blk.alloc ?_ _) | (exact rfl))), by (repeat' (first | (with_reducible exact hN) | (with_reducible refine BlkP.Blk.drew ?_) | (with_reducible refine BlkP.Blk.drewN ?_ _) | (with_reducible refine BlkP.Blk.setAt (us := ?_) (by first | omega | (simp; done) | (simp; omega)) rfl ?_ ?_) | (with_reducible refine BlkP.Blk.otherAt ?_ (by first | omega | (simp; done) | (simp; omega))) | (with_reducible refine BlkP.Blk.newA' (by first | omega | (simp; done) | (simp; omega)) rfl) | (with_reducible refine BlkP.Blk.alloc ?_ _) | (exact rfl))), by first | exact own_set3 hR hA | exact own_set3 hR.drew hA.drew, by first | exact own_set3 hQ hA | exact own_set3 hQ.drew hA.drew⟩ ?_
              clear hHeld hA hN hR hQ
              rintro v5 ⟨hHeld, hA, hN, hR, hQ⟩
              have hSv5 := hHeld.size
              refine wpAnyH_ready (rs := [7]) (by kernel_rfl) (by simp) ?_
              refine AllReadyH.cons (o := ⟨none, _, _, _, _, _⟩) rfl (fun K hK => ?_) ?_
              · have e0 := hN.cell (i := 0) (v := .slice none 0 0) rfl
                have f0 := hN.frozen 0
                have e1 := hN.cell (i := 1) (v := .int .i64 0) rfl
                have f1 := hN.frozen 1
                have e2 := hN.cell (i := 2) (v := .int .i64 0) rfl
                have f2 := hN.frozen 2
                have lA := hA.lt
                have lN := hN.lt
                go_simp
                refine hK.out _ _ (by (repeat' (first | (with_reducible exact Below.refl _ _) | (with_reducible refine Below.setCell ?_ (by (first | omega | (simp; done) | (simp; omega))) _) | (with_reducible refine Below.alloc ?_ (by (first | omega | (simp; done) | (simp; omega))) _) | (with_reducible refine Below.drew ?_) | (with_reducible refine below_drewN ?_ _) | (with_reducible refine Below.trans ?_ (Below.mono hHeld (by (first | omega | (simp; done) | (simp; omega)))))))) (fun hHeld => ?_)
                clear hK K
                clear e0 e1 e2 f0 f1 f2
                refine any_named (fun W => Below W0.heap.size W0 W ∧ Blk W v3.heap.size TD [.slice AR k cR, .int .i64 ag, .int .i64 dl] ∧ Blk W v0.heap.size TD [.slice AQ k cQ, .int .i64 ag, .int .i64 dl] ∧ RowG.Own encX TX W W0.heap.size (.slice AR k cR) l ∧ RowG.Own encX TX W W0.heap.size (.slice AQ k cQ) l) ⟨hHeld, by (repeat' (first | (with_reducible exact hA) | (with_reducible refine BlkP.Blk.drew ?_) | (with_reducible refine BlkP.Blk.drewN ?_ _) | (with_reducible refine BlkP.Blk.setAt (us := ?_) (by first | omega | (simp; done) | (simp; omega)) rfl ?_ ?_) | (with_reducible refine BlkP.Blk.otherAt ?_ (by first | omega | (simp; done) | (simp; omega))) | (with_reducible refine BlkP.Blk.newA' (by first | omega | (simp; done) | (simp; omega)) rfl) | (with_reducible refine BlkP.Blk.alloc ?_ _) | (exact rfl))), by (repeat' (first | (with_reducible exact hN) | (with_reducible refine BlkP.Blk.drew ?_) | (with_reducible refine BlkP.Blk.drewN ?_ _) | (with_reducible refine BlkP.Blk.setAt (us := ?_) (by first | omega | (simp; done) | (simp; omega)) rfl ?_ ?_) | (with_reducible refine BlkP.Blk.otherAt ?_ (by first | omega | (simp; done) | (simp; omega))) | (with_reducible refine BlkP.Blk.newA' (by first | omega | (simp; done) | (simp; omega)) rfl) | (with_reducible refine BlkP.Blk.alloc ?_ _) | (exact rfl))), by first | exact own_set3 hR hN | exact own_set3 hR.drew hN.drew, by first | exact own_set3 hQ hN | exact own_set3 hQ.drew hN.drew⟩ ?_
                clear hHeld hA hN hR hQ
                rintro v6 ⟨hHeld, hA, hN, hR, hQ⟩
                have hSv6 := hHeld.size
                refine wpAnyH_done (by kernel_rfl) ?_ _
                refine NoPanic.normal ?_
                go_wp2_with fail
                go_meet
                case rel =>
                  exact ⟨v3.heap.size, v0.heap.size, AR, cR, AQ, cQ, rfl, rfl, by omega, by omega, by omega, hA, hN, hR, hQ, hDIF, hHeld⟩
              exact AllReadyH.nil
            exact AllReadyH.nil
          exact AllReadyH.nil
        refine AllReadyH.cons (o := ⟨some 6, _, _, _, _, _⟩) rfl (fun K hK => ?_) ?_
        · go_simp
          refine hK.out _ _ (hHeld.alloc hHeld.size _) (fun hHeld => ?_)
          clear hK K
          have lN := hN.lt
          refine any_named (fun W => Below W0.heap.size W0 W ∧ Blk W v2.heap.size TD [.slice none 0 0, .int .i64 0, .int .i64 0] ∧ Blk W v0.heap.size TD [.slice none 0 0, .int .i64 0, .int .i64 0] ∧ RowG.Own encX TX W W0.heap.size (.slice AR k cR) l) ⟨hHeld, by (repeat' (first | (with_reducible refine BlkP.Blk.drew ?_) | (with_reducible refine BlkP.Blk.drewN ?_ _) | (with_reducible refine BlkP.Blk.setAt (us := ?_) (by first | omega | (simp; done) | (simp; omega)) rfl ?_ ?_) | (with_reducible refine BlkP.Blk.otherAt ?_ (by first | omega | (simp; done) | (simp; omega))) | (with_reducible refine BlkP.Blk.newA' (by first | omega | (simp; done) | (simp; omega)) rfl) | (with_reducible refine BlkP.Blk.alloc ?_ _) | (exact rfl))), by (repeat' (first | (with_reducible exact hN) | (with_reducible refine BlkP.Blk.drew ?_) | (with_reducible refine BlkP.Blk.drewN ?_ _) | (with_reducible refine BlkP.Blk.setAt (us := ?_) (by first | omega | (simp; done) | (simp; omega)) rfl ?_ ?_) | (with_reducible refine BlkP.Blk.otherAt ?_ (by first | omega | (simp; done) | (simp; omega))) | (with_reducible refine BlkP.Blk.newA' (by first | omega | (simp; done) | (simp; omega)) rfl) | (with_reducible refine BlkP.Blk.alloc ?_ _) | (exact rfl))), hR.below (by (repeat' (first | (with_reducible exact Below.refl _ _) | (with_reducible refine Below.setCell ?_ (by (first | omega | (simp; done) | (simp; omega))) _) | (with_reducible refine Below.alloc ?_ (by (first | omega | (simp; done) | (simp; omega))) _) | (with_reducible refine Below.drew ?_) | (with_reducible refine below_drewN ?_ _))))⟩ ?_
          clear hHeld hN hR
          rintro v3 ⟨hHeld, hA, hN, hR⟩
          have hSv3 := hHeld.size
          refine wpAnyH_ready (rs := [3]) (by kernel_rfl) (by simp) ?_
          refine AllReadyH.cons (o := ⟨some 14, _, _, _, _, _⟩) rfl (fun K hK => ?_) ?_
          · have hHeld0 := hHeld.size
            go_simp
            refine (Next_q (HT.out.below (below_t HB0.out hHeld)) H8.out HDR.out hd2 HL.out).mono ?_
            rintro e wf ⟨vf, rfl, hof, hbf⟩
            obtain ⟨AQ, cQ, rfl, _, _, _⟩ := hof.form HK.out
            have hDIF : ∀ g, (Value.slice AR k cR).ownBlock = some g → (Value.slice AQ k cQ).ownBlock ≠ some g := fun g h1 h2 => absurd (Nat.lt_of_lt_of_le (hR.ge g h1).2 (hof.ge g h2).1) (Nat.lt_irrefl _)
            go_wp2_with fail
            refine hK.out _ _ (below_t hHeld hbf) (fun hHeld => ?_)
            clear hK K
            refine any_named (fun W => Below W0.heap.size W0 W ∧ Blk W v2.heap.size TD [.slice none 0 0, .int .i64 0, .int .i64 0] ∧ Blk W v0.heap.size TD [.slice none 0 0, .int .i64 0, .int .i64 0] ∧ RowG.Own encX TX W W0.heap.size (.slice AR k cR) l ∧ RowG.Own encX TX W W0.heap.size (.slice AQ k cQ) l) ⟨hHeld, hA.below hbf, hN.below hbf, hR.below hbf, hof.mono (show W0.heap.size ≤ _ from hHeld0)⟩ ?_
            clear hHeld hA hN hR
            rintro v4 ⟨hHeld, hA, hN, hR, hQ⟩
            have hSv4 := hHeld.size
            clear hof hbf
            refine wpAnyH_ready (rs := [6]) (by kernel_rfl) (by simp) ?_
            refine AllReadyH.cons (o := ⟨none, _, _, _, _, _⟩) rfl (fun K hK => ?_) ?_
            · have e0 := hA.cell (i := 0) (v := .slice none 0 0) rfl
              have f0 := hA.frozen 0
              have e1 := hA.cell (i := 1) (v := .int .i64 0) rfl
              have f1 := hA.frozen 1
              have e2 := hA.cell (i := 2) (v := .int .i64 0) rfl
              have f2 := hA.frozen 2
              have lA := hA.lt
              have lN := hN.lt
              go_simp
              refine hK.out _ _ (by (repeat' (first | (with_reducible exact Below.refl _ _) | (with_reducible refine Below.setCell ?_ (by (first | omega | (simp; done) | (simp; omega))) _) | (with_reducible refine Below.alloc ?_ (by (first | omega | (simp; done) | (simp; omega))) _) | (with_reducible refine Below.drew ?_) | (with_reducible refine below_drewN ?_ _) | (with_reducible refine Below.trans ?_ (Below.mono hHeld (by (first | omega | (simp; done) | (simp; omega)))))))) (fun hHeld => ?_)
              clear hK K
              clear e0 e1 e2 f0 f1 f2
              refine any_named (fun W => Below W0.heap.size W0 W ∧ Blk W v2.heap.size TD [.slice AR k cR, .int .i64 ag, .int .i64 dl] ∧ Blk W v0.heap.size TD [.slice none 0 0, .int .i64 0, .int .i64 0] ∧ RowG.Own encX TX W W0.heap.size (.slice AR k cR) l ∧ RowG.Own encX TX W W0.heap.size (.slice AQ k cQ) l) ⟨hHeld, by (repeat' (first | (with_reducible exact hA) | (with_reducible refine BlkP.Blk.drew ?_) | (with_reducible refine BlkP.Blk.drewN ?_ _) | (with_reducible refine BlkP.Blk.setAt (us := ?_) (by first | omega | (simp; done) | (simp; omega)) rfl ?_ ?_) | (with_reducible refine BlkP.Blk.otherAt ?_ (by first | omega | (simp; done) | (simp; omega))) | (with_reducible refine BlkP.Blk.newA' (by first | omega | (simp; done) | (simp; omega)) rfl) | (with_reducible refine BlkP.Blk.alloc ?_ _) | (exact rfl))), by (repeat' (first | (with_reducible exact hN) | (with_reducible refine BlkP.Blk.drew ?_) | (with_reducible refine BlkP.Blk.drewN ?_ _) | (with_reducible refine BlkP.Blk.setAt (us := ?_) (by first | omega | (simp; done) | (simp; omega)) rfl ?_ ?_) | (with_reducible refine BlkP.Blk.otherAt ?_ (by first | omega | (simp; done) | (simp; omega))) | (with_reducible refine BlkP.Blk.newA' (by first | omega | (simp; done) | (simp; omega)) rfl) | (with_reducible refine BlkP.Blk.alloc ?_ _) | (exact rfl))), by first | exact own_set3 hR hA | exact own_set3 hR.drew hA.drew, by first | exact own_set3 hQ hA | exact own_set3 hQ.drew hA.drew⟩ ?_
              clear hHeld hA hN hR hQ
              rintro v5 ⟨hHeld, hA, hN, hR, hQ⟩
              have hSv5 := hHeld.size
              refine wpAnyH_ready (rs := [7]) (by kernel_rfl) (by simp) ?_
              refine AllReadyH.cons (o := ⟨none, _, _, _, _, _⟩) rfl (fun K hK => ?_) ?_
              · have e0 := hN.cell (i := 0) (v := .slice none 0 0) rfl
                have f0 := hN.frozen 0
                have e1 := hN.cell (i := 1) (v := .int .i64 0) rfl
                have f1 := hN.frozen 1
                have e2 := hN.cell (i := 2) (v := .int .i64 0) rfl
                have f2 := hN.frozen 2
                have lA := hA.lt
                have lN := hN.lt
                go_simp
                refine hK.out _ _ (by (repeat' (first | (with_reducible exact Below.refl _ _) | (with_reducible refine Below.setCell ?_ (by (first | omega | (simp; done) | (simp; omega))) _) | (with_reducible refine Below.alloc ?_ (by (first | omega | (simp; done) | (simp; omega))) _) | (with_reducible refine Below.drew ?_) | (with_reducible refine below_drewN ?_ _) | (with_reducible refine Below.trans ?_ (Below.mono hHeld (by (first | omega | (simp; done) | (simp; omega)))))))) (fun hHeld => ?_)
                clear hK K
                clear e0 e1 e2 f0 f1 f2
                refine any_named (fun W => Below W0.heap.size W0 W ∧ Blk W v2.heap.size TD [.slice AR k cR, .int .i64 ag, .int .i64 dl] ∧ Blk W v0.heap.size TD [.slice AQ k cQ, .int .i64 ag, .int .i64 dl] ∧ RowG.Own encX TX W W0.heap.size (.slice AR k cR) l ∧ RowG.Own encX TX W W0.heap.size (.slice AQ k cQ) l) ⟨hHeld, by (repeat' (first | (with_reducible exact hA) | (with_reducible refine BlkP.Blk.drew ?_) | (with_reducible refine BlkP.Blk.drewN ?_ _) | (with_reducible refine BlkP.Blk.setAt (us := ?_) (by first | omega | (simp; done) | (simp; omega)) rfl ?_ ?_) | (with_reducible refine BlkP.Blk.otherAt ?_ (by first | omega | (simp; done) | (simp; omega))) | (with_reducible refine BlkP.Blk.newA' (by first | omega | (simp; done) | (simp; omega)) rfl) | (with_reducible refine BlkP.Blk.alloc ?_ _) | (exact rfl))), by (repeat' (first | (with_reducible exact hN) | (with_reducible refine BlkP.Blk.drew ?_) | (with_reducible refine BlkP.Blk.drewN ?_ _) | (with_reducible refine BlkP.Blk.setAt (us := ?_) (by first | omega | (simp; done) | (simp; omega)) rfl ?_ ?_) | (with_reducible refine BlkP.Blk.otherAt ?_ (by first | omega | (simp; done) | (simp; omega))) | (with_reducible refine BlkP.Blk.newA' (by first | omega | (simp; done) | (simp; omega)) rfl) | (with_reducible refine BlkP.Blk.alloc ?_ _) | (exact rfl))), by first | exact own_set3 hR hN | exact own_set3 hR.drew hN.drew, by first | exact own_set3 hQ hN | exact own_set3 hQ.drew hN.drew⟩ ?_
                clear hHeld hA hN hR hQ
                rintro v6 ⟨hHeld, hA, hN, hR, hQ⟩
                have hSv6 := hHeld.size
                refine wpAnyH_done (by kernel_rfl) ?_ _
                refine NoPanic.normal ?_
                go_wp2_with fail
                go_meet
                case rel =>
                  exact ⟨v2.heap.size, v0.heap.size, AR, cR, AQ, cQ, rfl, rfl, by omega, by omega, by omega, hA, hN, hR, hQ, hDIF, hHeld⟩
              exact AllReadyH.nil
            exact AllReadyH.nil
          exact AllReadyH.nil
        exact AllReadyH.nil
      refine AllReadyH.cons (o := ⟨some 6, _, _, _, _, _⟩) rfl (fun K hK => ?_) ?_
      · go_simp
        refine hK.out _ _ (hHeld.alloc hHeld.size _) (fun hHeld => ?_)
        clear hK K
        have lN := hN.lt
        refine any_named (fun W => Below W0.heap.size W0 W ∧ Blk W v1.heap.size TD [.slice none 0 0, .int .i64 0, .int .i64 0] ∧ Blk W v0.heap.size TD [.slice none 0 0, .int .i64 0, .int .i64 0]) ⟨hHeld, by (repeat' (first | (with_reducible refine BlkP.Blk.drew ?_) | (with_reducible refine BlkP.Blk.drewN ?_ _) | (with_reducible refine BlkP.Blk.setAt (us := ?_) (by first | omega | (simp; done) | (simp; omega)) rfl ?_ ?_) | (with_reducible refine BlkP.Blk.otherAt ?_ (by first | omega | (simp; done) | (simp; omega))) | (with_reducible refine BlkP.Blk.newA' (by first | omega | (simp; done) | (simp; omega)) rfl) | (with_reducible refine BlkP.Blk.alloc ?_ _) | (exact rfl))), by (repeat' (first | (with_reducible exact hN) | (with_reducible refine BlkP.Blk.drew ?_) | (with_reducible refine BlkP.Blk.drewN ?_ _) | (with_reducible refine BlkP.Blk.setAt (us := ?_) (by first | omega | (simp; done) | (simp; omega)) rfl ?_ ?_) | (with_reducible refine BlkP.Blk.otherAt ?_ (by first | omega | (simp; done) | (simp; omega))) | (with_reducible refine BlkP.Blk.newA' (by first | omega | (simp; done) | (simp; omega)) rfl) | (with_reducible refine BlkP.Blk.alloc ?_ _) | (exact rfl)))⟩ ?_
        clear hHeld hN
        rintro v2 ⟨hHeld, hA, hN⟩
        have hSv2 := hHeld.size
        refine wpAnyH_ready (rs := [1]) (by kernel_rfl) (by simp) ?_
        refine AllReadyH.cons (o := ⟨some 12, _, _, _, _, _⟩) rfl (fun K hK => ?_) ?_
        · have hHeld0 := hHeld.size
          go_simp
          refine (Next_q (HT.out.below (below_t HB0.out hHeld)) H8.out HDR.out hd2 HL.out).mono ?_
          rintro e wf ⟨vf, rfl, hof, hbf⟩
          obtain ⟨AR, cR, rfl, _, _, _⟩ := hof.form HK.out
          go_wp2_with fail
          refine hK.out _ _ (below_t hHeld hbf) (fun hHeld => ?_)
          clear hK K
          refine any_named (fun W => Below W0.heap.size W0 W ∧ Blk W v1.heap.size TD [.slice none 0 0, .int .i64 0, .int .i64 0] ∧ Blk W v0.heap.size TD [.slice none 0 0, .int .i64 0, .int .i64 0] ∧ RowG.Own encX TX W W0.heap.size (.slice AR k cR) l) ⟨hHeld, hA.below hbf, hN.below hbf, hof.mono (show W0.heap.size ≤ _ from hHeld0)⟩ ?_
          clear hHeld hA hN
          rintro v3 ⟨hHeld, hA, hN, hR⟩
          have hSv3 := hHeld.size
          clear hof hbf
          refine wpAnyH_ready (rs := [3]) (by kernel_rfl) (by simp) ?_
          refine AllReadyH.cons (o := ⟨some 14, _, _, _, _, _⟩) rfl (fun K hK => ?_) ?_
          · have hHeld0 := hHeld.size
            go_simp
            refine (Next_q (HT.out.below (below_t HB0.out hHeld)) H8.out HDR.out hd2 HL.out).mono ?_
            rintro e wf ⟨vf, rfl, hof, hbf⟩
            obtain ⟨AQ, cQ, rfl, _, _, _⟩ := hof.form HK.out
            have hDIF : ∀ g, (Value.slice AR k cR).ownBlock = some g → (Value.slice AQ k cQ).ownBlock ≠ some g := fun g h1 h2 => absurd (Nat.lt_of_lt_of_le (hR.ge g h1).2 (hof.ge g h2).1) (Nat.lt_irrefl _)
            go_wp2_with fail
            refine hK.out _ _ (below_t hHeld hbf) (fun hHeld => ?_)
            clear hK K
            refine any_named (fun W => Below W0.heap.size W0 W ∧ Blk W v1.heap.size TD [.slice none 0 0, .int .i64 0, .int .i64 0] ∧ Blk W v0.heap.size TD [.slice none 0 0, .int .i64 0, .int .i64 0] ∧ RowG.Own encX TX W W0.heap.size (.slice AR k cR) l ∧ RowG.Own encX TX W W0.heap.size (.slice AQ k cQ) l) ⟨hHeld, hA.below hbf, hN.below hbf, hR.below hbf, hof.mono (show W0.heap.size ≤ _ from hHeld0)⟩ ?_
            clear hHeld hA hN hR
            rintro v4 ⟨hHeld, hA, hN, hR, hQ⟩
            have hSv4 := hHeld.size
            clear hof hbf
            refine wpAnyH_ready (rs := [6]) (by kernel_rfl) (by simp) ?_
            refine AllReadyH.cons (o := ⟨none, _, _, _, _, _⟩) rfl (fun K hK => ?_) ?_
            · have e0 := hA.cell (i := 0) (v := .slice none 0 0) rfl
              have f0 := hA.frozen 0
              have e1 := hA.cell (i := 1) (v := .int .i64 0) rfl
              have f1 := hA.frozen 1
              have e2 := hA.cell (i := 2) (v := .int .i64 0) rfl
              have f2 := hA.frozen 2
              have lA := hA.lt
              have lN := hN.lt
              go_simp
              refine hK.out _ _ (by (repeat' (first | (with_reducible exact Below.refl _ _) | (with_reducible refine Below.setCell ?_ (by (first | omega | (simp; done) | (simp; omega))) _) | (with_reducible refine Below.alloc ?_ (by (first | omega | (simp; done) | (simp; omega))) _) | (with_reducible refine Below.drew ?_) | (with_reducible refine below_drewN ?_ _) | (with_reducible refine Below.trans ?_ (Below.mono hHeld (by (first | omega | (simp; done) | (simp; omega)))))))) (fun hHeld => ?_)
              clear hK K
              clear e0 e1 e2 f0 f1 f2
              refine any_named (fun W => Below W0.heap.size W0 W ∧ Blk W v1.heap.size TD [.slice AR k cR, .int .i64 ag, .int .i64 dl] ∧ Blk W v0.heap.size TD [.slice none 0 0, .int .i64 0, .int .i64 0] ∧ RowG.Own encX TX W W0.heap.size (.slice AR k cR) l ∧ RowG.Own encX TX W W0.heap.size (.slice AQ k cQ) l) ⟨hHeld, by (repeat' (first | (with_reducible exact hA) | (with_reducible refine BlkP.Blk.drew ?_) | (with_reducible refine BlkP.Blk.drewN ?_ _) | (with_reducible refine BlkP.Blk.setAt (us := ?_) (by first | omega | (simp; done) | (simp; omega)) rfl ?_ ?_) | (with_reducible refine BlkP.Blk.otherAt ?_ (by first | omega | (simp; done) | (simp; omega))) | (with_reducible refine BlkP.Blk.newA' (by first | omega | (simp; done) | (simp; omega)) rfl) | (with_reducible refine BlkP.Blk.alloc ?_ _) | (exact rfl))), by (repeat' (first | (with_reducible exact hN) | (with_reducible refine BlkP.Blk.drew ?_) | (with_reducible refine BlkP.Blk.drewN ?_ _) | (with_reducible refine BlkP.Blk.setAt (us := ?_) (by first | omega | (simp; done) | (simp; omega)) rfl ?_ ?_) | (with_reducible refine BlkP.Blk.otherAt ?_ (by first | omega | (simp; done) | (simp; omega))) | (with_reducible refine BlkP.Blk.newA' (by first | omega | (simp; done) | (simp; omega)) rfl) | (with_reducible refine BlkP.Blk.alloc ?_ _) | (exact rfl))), by first | exact own_set3 hR hA | exact own_set3 hR.drew hA.drew, by first | exact own_set3 hQ hA | exact own_set3 hQ.drew hA.drew⟩ ?_
              clear hHeld hA hN hR hQ
              rintro v5 ⟨hHeld, hA, hN, hR, hQ⟩
              have hSv5 := hHeld.size
              refine wpAnyH_ready (rs := [7]) (by kernel_rfl) (by simp) ?_
              refine AllReadyH.cons (o := ⟨none, _, _, _, _, _⟩) rfl (fun K hK => ?_) ?_
              · have e0 := hN.cell (i := 0) (v := .slice none 0 0) rfl
                have f0 := hN.frozen 0
                have e1 := hN.cell (i := 1) (v := .int .i64 0) rfl
                have f1 := hN.frozen 1
                have e2 := hN.cell (i := 2) (v := .int .i64 0) rfl
                have f2 := hN.frozen 2
                have lA := hA.lt
                have lN := hN.lt
                go_simp
                refine hK.out _ _ (by (repeat' (first | (with_reducible exact Below.refl _ _) | (with_reducible refine Below.setCell ?_ (by (first | omega | (simp; done) | (simp; omega))) _) | (with_reducible refine Below.alloc ?_ (by (first | omega | (simp; done) | (simp; omega))) _) | (with_reducible refine Below.drew ?_) | (with_reducible refine below_drewN ?_ _) | (with_reducible refine Below.trans ?_ (Below.mono hHeld (by (first | omega | (simp; done) | (simp; omega)))))))) (fun hHeld => ?_)
                clear hK K
                clear e0 e1 e2 f0 f1 f2
                refine any_named (fun W => Below W0.heap.size W0 W ∧ Blk W v1.heap.size TD [.slice AR k cR, .int .i64 ag, .int .i64 dl] ∧ Blk W v0.heap.size TD [.slice AQ k cQ, .int .i64 ag, .int .i64 dl] ∧ RowG.Own encX TX W W0.heap.size (.slice AR k cR) l ∧ RowG.Own encX TX W W0.heap.size (.slice AQ k cQ) l) ⟨hHeld, by (repeat' (first | (with_reducible exact hA) | (with_reducible refine BlkP.Blk.drew ?_) | (with_reducible refine BlkP.Blk.drewN ?_ _) | (with_reducible refine BlkP.Blk.setAt (us := ?_) (by first | omega | (simp; done) | (simp; omega)) rfl ?_ ?_) | (with_reducible refine BlkP.Blk.otherAt ?_ (by first | omega | (simp; done) | (simp; omega))) | (with_reducible refine BlkP.Blk.newA' (by first | omega | (simp; done) | (simp; omega)) rfl) | (with_reducible refine BlkP.Blk.alloc ?_ _) | (exact rfl))), by (repeat' (first | (with_reducible exact hN) | (with_reducible refine BlkP.Blk.drew ?_) | (with_reducible refine BlkP.Blk.drewN ?_ _) | (with_reducible refine BlkP.Blk.setAt (us := ?_) (by first | omega | (simp; done) | (simp; omega)) rfl ?_ ?_) | (with_reducible refine BlkP.Blk.otherAt ?_ (by first | omega | (simp; done) | (simp; omega))) | (with_reducible refine BlkP.Blk.newA' (by first | omega | (simp; done) | (simp; omega)) rfl) | (with_reducible refine BlkP.Blk.alloc ?_ _) | (exact rfl))), by first | exact own_set3 hR hN | exact own_set3 hR.drew hN.drew, by first | exact own_set3 hQ hN | exact own_set3 hQ.drew hN.drew⟩ ?_
                clear hHeld hA hN hR hQ
                rintro v6 ⟨hHeld, hA, hN, hR, hQ⟩
                have hSv6 := hHeld.size
                refine wpAnyH_done (by kernel_rfl) ?_ _
                refine NoPanic.normal ?_
                go_wp2_with fail
                go_meet
                case rel =>
                  exact ⟨v1.heap.size, v0.heap.size, AR, cR, AQ, cQ, rfl, rfl, by omega, by omega, by omega, hA, hN, hR, hQ, hDIF, hHeld⟩
              exact AllReadyH.nil
            exact AllReadyH.nil
          exact AllReadyH.nil
        exact AllReadyH.nil
      exact AllReadyH.nil
    exact AllReadyH.nil
  case rest =>
    obtain ⟨bA, bN, AR, cR, AQ, cQ, rfl, rfl, hne, sA, sN, hA, hN, hR, hQ, hDIF, hbc⟩ := hcut
    have HDIF := Lib.hid hDIF
    go_wp2_with fail
    refine HeldP.wp_named (S := fun W => Blk W bA TD [.slice AR k cR, .int .i64 ag, .int .i64 dl] ∧ Blk W bN TD [.slice AQ k cQ, .int .i64 ag, .int .i64 dl] ∧ RowG.Own encX TX W W0.heap.size (.slice AR k cR) l ∧ RowG.Own encX TX W W0.heap.size (.slice AQ k cQ) l ∧ Below W0.heap.size W0 W) ⟨by (repeat' (first | (with_reducible exact hA) | (with_reducible refine BlkP.Blk.drew ?_) | (with_reducible refine BlkP.Blk.drewN ?_ _) | (with_reducible refine BlkP.Blk.setAt (us := ?_) (by first | omega | (simp; done) | (simp; omega)) rfl ?_ ?_) | (with_reducible refine BlkP.Blk.otherAt ?_ (by first | omega | (simp; done) | (simp; omega))) | (with_reducible refine BlkP.Blk.newA' (by first | omega | (simp; done) | (simp; omega)) rfl) | (with_reducible refine BlkP.Blk.alloc ?_ _) | (exact rfl))), by (repeat' (first | (with_reducible exact hN) | (with_reducible refine BlkP.Blk.drew ?_) | (with_reducible refine BlkP.Blk.drewN ?_ _) | (with_reducible refine BlkP.Blk.setAt (us := ?_) (by first | omega | (simp; done) | (simp; omega)) rfl ?_ ?_) | (with_reducible refine BlkP.Blk.otherAt ?_ (by first | omega | (simp; done) | (simp; omega))) | (with_reducible refine BlkP.Blk.newA' (by first | omega | (simp; done) | (simp; omega)) rfl) | (with_reducible refine BlkP.Blk.alloc ?_ _) | (exact rfl))), hR.below (by (repeat' (first | (with_reducible exact Below.refl _ _) | (with_reducible refine Below.setCell ?_ (by (first | omega | (simp; done) | (simp; omega))) _) | (with_reducible refine Below.alloc ?_ (by (first | omega | (simp; done) | (simp; omega))) _) | (with_reducible refine Below.drew ?_) | (with_reducible refine below_drewN ?_ _)))), hQ.below (by (repeat' (first | (with_reducible exact Below.refl _ _) | (with_reducible refine Below.setCell ?_ (by (first | omega | (simp; done) | (simp; omega))) _) | (with_reducible refine Below.alloc ?_ (by (first | omega | (simp; done) | (simp; omega))) _) | (with_reducible refine Below.drew ?_) | (with_reducible refine below_drewN ?_ _)))), by (repeat' (first | (with_reducible exact Below.refl _ _) | (with_reducible refine Below.setCell ?_ (by (first | omega | (simp; done) | (simp; omega))) _) | (with_reducible refine Below.alloc ?_ (by (first | omega | (simp; done) | (simp; omega))) _) | (with_reducible refine Below.drew ?_) | (with_reducible refine below_drewN ?_ _) | (with_reducible refine Below.trans ?_ (Below.mono hbc (by (first | omega | (simp; done) | (simp; omega)))))))⟩ ?_
    clear hA hN hR hQ hDIF hbc
    rintro w5 ⟨hA, hN, hR, hQ, hbc⟩
    have HBC := Lib.hid hbc
    have HB5 := Lib.hid (below_t HB0.out hbc)
    have HA := Lib.hid hA
    have HN := Lib.hid hN
    have HRO := Lib.hid hR
    have HQO := Lib.hid hQ
    have HRW := Lib.hid (HR0.out.below hbc)
    have HDW := Lib.hid (HD0.out.below hbc)
    have hn0 := (H0.out.below hbc).cell (i := 0) (g_kind n)
    rw [HS0.out] at hn0
    simp only at hn0
    have ln := (H0.out.below hbc).lt
    have la := hA.lt
    have ld := HDW.out.lt
    have a0 := hA.cell (i := 0) rfl
    have a1 := hA.cell (i := 1) rfl
    have a2 := hA.cell (i := 2) rfl
    have d0 := HDW.out.cell (i := 0) rfl
    have d1 := HDW.out.cell (i := 1) rfl
    have d2 := HDW.out.cell (i := 2) rfl
    clear hA hN hR hQ hbc
    refine wp_region_noPanic ?_
    refine wp_region_held_drew (S := fun W => Below w5.heap.size w5 W) (by kernel_rfl) ((Below.refl _ w5).drew) (fun hHeld => ?_)
    refine wpAnyH_take (i := 0) (oi := ⟨some 15, _, _, _, _, _⟩) (v := .agg #[.slice AR k cR, .int .i64 ag, .int .i64 dl]) rfl (by kernel_rfl) (by kernel_rfl) (by kernel_rfl) (fun _ _ _ h => h) (Or.inl ⟨by rfl, fun W hSW => by have a0 := (hSW.cell (p := ⟨bA, 0, none⟩) la).trans a0; have a1 := (hSW.cell (p := ⟨bA, 1, none⟩) la).trans a1; have a2 := (hSW.cell (p := ⟨bA, 2, none⟩) la).trans a2; go_simp⟩) hHeld ?_
    simp only [Act.put, List.setIfInBounds_toArray, List.set_cons_zero, List.set_cons_succ]
    refine wpAnyH_take (i := 1) (oi := ⟨some 16, _, _, _, _, _⟩) (v := .agg #[.slice A0 k c0, .int .i64 ag, .int .i64 dl]) rfl (by kernel_rfl) (by kernel_rfl) (by kernel_rfl) (fun _ _ _ h => h) (Or.inl ⟨by rfl, fun W hSW => by have a0 := (hSW.cell (p := ⟨D, 0, none⟩) ld).trans d0; have a1 := (hSW.cell (p := ⟨D, 1, none⟩) ld).trans d1; have a2 := (hSW.cell (p := ⟨D, 2, none⟩) ld).trans d2; go_simp⟩) hHeld ?_
    simp only [Act.put, List.setIfInBounds_toArray, List.set_cons_zero, List.set_cons_succ]
    refine wpAnyH_ready (rs := [2]) (by kernel_rfl) (by simp) ?_
    refine AllReadyH.cons (o := ⟨some 17, _, _, _, _, _⟩) rfl (fun K hK => ?_) AllReadyH.nil
    go_simp
    refine (rsameZ_c (rd_z (HRO.out.rd.below hHeld)) (rd_z (HRW.out.below hHeld)) HZL.out HK5.out).mono ?_
    rintro e w6 ⟨rfl, hb6⟩
    go_wp2_with fail
    refine hK.out _ _ (below_t hHeld hb6) (fun hHeld => ?_)
    clear hK K hb6
    refine wpAnyH_take (i := 3) (oi := ⟨some 18, _, _, _, _, _⟩) (v := .bool false) rfl (by kernel_rfl) (by kernel_rfl) (by kernel_rfl) (fun _ _ _ h => h) (Or.inl ⟨by rfl, fun W hSW => by go_simp⟩) hHeld ?_
    simp only [Act.put, List.setIfInBounds_toArray, List.set_cons_zero, List.set_cons_succ]
    refine wpAnyH_take (i := 4) (oi := ⟨some 19, _, _, _, _, _⟩) (v := .bool false) rfl (by kernel_rfl) (by kernel_rfl) (by kernel_rfl) (fun _ _ _ h => h) (Or.inl ⟨by rfl, fun W hSW => by go_simp⟩) hHeld ?_
    simp only [Act.put, List.setIfInBounds_toArray, List.set_cons_zero, List.set_cons_succ]
    refine wpAnyH_take (i := 5) (oi := ⟨some 20, _, _, _, _, _⟩) (v := .int .u8 (q : Int)) rfl (by kernel_rfl) (by kernel_rfl) (by kernel_rfl) (fun _ _ _ h => h) (Or.inl ⟨by rfl, fun W hSW => by go_simp⟩) hHeld ?_
    simp only [Act.put, List.setIfInBounds_toArray, List.set_cons_zero, List.set_cons_succ]
    refine wpAnyH_take (i := 7) (oi := ⟨some 22, _, _, _, _, _⟩) (v := .int .u8 (q : Int)) rfl (by kernel_rfl) (by kernel_rfl) (by kernel_rfl) (fun _ _ _ h => h) (Or.inl ⟨by rfl, fun W hSW => by go_simp⟩) hHeld ?_
    simp only [Act.put, List.setIfInBounds_toArray, List.set_cons_zero, List.set_cons_succ]
    refine wpAnyH_ready (rs := [6]) (by kernel_rfl) (by simp) ?_
    refine AllReadyH.cons (o := ⟨some 21, _, _, _, _, _⟩) rfl (fun K hK => ?_) AllReadyH.nil
    go_simp
    refine (Delay_c HQ8.out HDE1.out).mono ?_
    rintro e w7 ⟨rfl, hb7⟩
    go_wp2_with fail
    refine hK.out _ _ (below_t hHeld hb7) (fun hHeld => ?_)
    clear hK K hb7
    refine wpAnyH_ready (rs := [8]) (by kernel_rfl) (by simp) ?_
    refine AllReadyH.cons (o := ⟨some 23, _, _, _, _, _⟩) rfl (fun K hK => ?_) AllReadyH.nil
    go_simp
    refine (rDelay_c HDE1.out).mono ?_
    rintro e w8 ⟨rfl, hb8⟩
    go_wp2_with fail
    refine hK.out _ _ (below_t hHeld hb8) (fun hHeld => ?_)
    clear hK K hb8
    refine wpAnyH_take (i := 9) (oi := ⟨some 24, _, _, _, _, _⟩) (v := .bool false) rfl (by kernel_rfl) (by kernel_rfl) (by kernel_rfl) (fun _ _ _ h => h) (Or.inl ⟨by rfl, fun W hSW => by go_simp⟩) hHeld ?_
    simp only [Act.put, List.setIfInBounds_toArray, List.set_cons_zero, List.set_cons_succ]
    refine wpAnyH_take (i := 10) (oi := ⟨some 25, _, _, _, _, _⟩) (v := .bool false) rfl (by kernel_rfl) (by kernel_rfl) (by kernel_rfl) (fun _ _ _ h => h) (Or.inl ⟨by rfl, fun W hSW => by go_simp⟩) hHeld ?_
    simp only [Act.put, List.setIfInBounds_toArray, List.set_cons_zero, List.set_cons_succ]
    refine wpAnyH_take (i := 11) (oi := ⟨some 26, _, _, _, _, _⟩) (v := .bool false) rfl (by kernel_rfl) (by kernel_rfl) (by kernel_rfl) (fun _ _ _ h => h) (Or.inl ⟨by rfl, fun W hSW => by go_simp⟩) hHeld ?_
    simp only [Act.put, List.setIfInBounds_toArray, List.set_cons_zero, List.set_cons_succ]
    refine wpAnyH_take (i := 12) (oi := ⟨some 27, _, _, _, _, _⟩) (v := .pointer (some ⟨s, 0, none⟩)) rfl (by kernel_rfl) (by kernel_rfl) (by kernel_rfl) (fun _ _ _ h => h) (Or.inl ⟨by rfl, fun W hSW => by go_simp⟩) hHeld ?_
    simp only [Act.put, List.setIfInBounds_toArray, List.set_cons_zero, List.set_cons_succ]
    refine wpAnyH_take (i := 13) (oi := ⟨some 28, _, _, _, _, _⟩) (v := .pointer (some ⟨s, 0, none⟩)) rfl (by kernel_rfl) (by kernel_rfl) (by kernel_rfl) (fun _ _ _ h => h) (Or.inl ⟨by rfl, fun W hSW => by go_simp⟩) hHeld ?_
    simp only [Act.put, List.setIfInBounds_toArray, List.set_cons_zero, List.set_cons_succ]
    refine wpAnyH_take (i := 14) (oi := ⟨some 29, _, _, _, _, _⟩) (v := .int .u8 (k0 : Int)) rfl (by kernel_rfl) (by kernel_rfl) (by kernel_rfl) (fun _ _ _ h => h) (Or.inl ⟨by rfl, fun W hSW => by have a0 := (hSW.cell (p := ⟨s, 0, none⟩) ln).trans hn0; go_simp⟩) hHeld ?_
    simp only [Act.put, List.setIfInBounds_toArray, List.set_cons_zero, List.set_cons_succ]
    refine wpAnyH_take (i := 16) (oi := ⟨some 31, _, _, _, _, _⟩) (v := .pointer (some ⟨s, 0, none⟩)) rfl (by kernel_rfl) (by kernel_rfl) (by kernel_rfl) (fun _ _ _ h => h) (Or.inl ⟨by rfl, fun W hSW => by go_simp⟩) hHeld ?_
    simp only [Act.put, List.setIfInBounds_toArray, List.set_cons_zero, List.set_cons_succ]
    refine wpAnyH_take (i := 17) (oi := ⟨some 32, _, _, _, _, _⟩) (v := .pointer (some ⟨s, 0, none⟩)) rfl (by kernel_rfl) (by kernel_rfl) (by kernel_rfl) (fun _ _ _ h => h) (Or.inl ⟨by rfl, fun W hSW => by go_simp⟩) hHeld ?_
    simp only [Act.put, List.setIfInBounds_toArray, List.set_cons_zero, List.set_cons_succ]
    refine wpAnyH_take (i := 18) (oi := ⟨some 33, _, _, _, _, _⟩) (v := .int .u8 (k0 : Int)) rfl (by kernel_rfl) (by kernel_rfl) (by kernel_rfl) (fun _ _ _ h => h) (Or.inl ⟨by rfl, fun W hSW => by have a0 := (hSW.cell (p := ⟨s, 0, none⟩) ln).trans hn0; go_simp⟩) hHeld ?_
    simp only [Act.put, List.setIfInBounds_toArray, List.set_cons_zero, List.set_cons_succ]
    refine wpAnyH_ready (rs := [15]) (by kernel_rfl) (by simp) ?_
    refine AllReadyH.cons (o := ⟨some 30, _, _, _, _, _⟩) rfl (fun K hK => ?_) AllReadyH.nil
    go_simp
    refine (Delay_c HK08.out HDE2.out).mono ?_
    rintro e w9 ⟨rfl, hb9⟩
    go_wp2_with fail
    refine hK.out _ _ (below_t hHeld hb9) (fun hHeld => ?_)
    clear hK K hb9
    refine wpAnyH_ready (rs := [19]) (by kernel_rfl) (by simp) ?_
    refine AllReadyH.cons (o := ⟨some 34, _, _, _, _, _⟩) rfl (fun K hK => ?_) AllReadyH.nil
    go_simp
    refine (rDelay_c HDE2.out).mono ?_
    rintro e w10 ⟨rfl, hb10⟩
    go_wp2_with fail
    refine hK.out _ _ (below_t hHeld hb10) (fun hHeld => ?_)
    clear hK K hb10
    refine wpAnyH_take (i := 20) (oi := ⟨some 35, _, _, _, _, _⟩) (v := .bool false) rfl (by kernel_rfl) (by kernel_rfl) (by kernel_rfl) (fun _ _ _ h => h) (Or.inl ⟨by rfl, fun W hSW => by go_simp⟩) hHeld ?_
    simp only [Act.put, List.setIfInBounds_toArray, List.set_cons_zero, List.set_cons_succ]
    refine wpAnyH_take (i := 21) (oi := ⟨some 36, _, _, _, _, _⟩) (v := .bool false) rfl (by kernel_rfl) (by kernel_rfl) (by kernel_rfl) (fun _ _ _ h => h) (Or.inl ⟨by rfl, fun W hSW => by go_simp⟩) hHeld ?_
    simp only [Act.put, List.setIfInBounds_toArray, List.set_cons_zero, List.set_cons_succ]
    refine wpAnyH_done (by kernel_rfl) ?_ _
    refine NoPanic.normal ?_
    have HX2 := Lib.hid hHeld
    clear hHeld hn0 ln la ld
    clear a0 a1 a2 d0 d1 d2
    obtain ⟨x2, hx2e⟩ : ∃ x, x = w10 := ⟨_, rfl⟩
    rw [← hx2e] at HX2
    rw [← hx2e]
    clear hx2e
    have HA2 := Lib.hid (HA.out.below HX2.out)
    have HRO2 := Lib.hid (HRO.out.below HX2.out)
    have hx2 := HX2.out.size
    have HNA := Lib.hid (own_ne HRO2.out HA2.out (by decide))
    have HNN := Lib.hid (own_ne HRO2.out (HN.out.below HX2.out) (by decide))
    have HND := Lib.hid (own_ne HRO2.out (HDW.out.below HX2.out) (by decide))
    go_wp2_with fail
    go_loopw [8] (fun v6 wr => ∃ (j : Nat) (l2 : List (Nat × Cl)), v6 = .int .i64 (j : Nat) ∧ j ≤ k ∧ l2.length = k ∧ RowG.Own encX TX wr W0.heap.size (.slice AR k cR) l2 ∧ Fr (fun q => (Value.slice AR k cR).ownBlock = some q) x2 wr) (fun v _ => k - (intOf v).toNat)
    case atStart => exact ⟨0, l, rfl, by omega, HK.out, HRO2.out, Fr.refl _ _⟩
    case round =>
      obtain ⟨j, l2, rfl, hj, hl2, hrow, hfr⟩ := hrel
      have HL2 := Lib.hid hl2
      have HROW := Lib.hid hrow
      have HFR := Lib.hid hfr
      have hAr := hfr.blk HA2.out HNA.out
      have a0 := hAr.cell (i := 0) rfl
      by_cases hjl : j < k
      · have hjI : (j : Int) < (k : Int) := by omega
        have hj1 : (j : Int) < 100 := by have := HK4.out; omega
        have hj2 : j < 100 := by have := HK4.out; omega
        have HWR := Lib.hid (show wrap64 ((j : Int) + 1) = ((j + 1 : Nat) : Int) by rw [wr64 (by omega) (by omega)]; omega)
        obtain ⟨A9, c9, hv9, _, _, hgg⟩ := hrow.form (n := k) hl2
        injection hv9 with h91 h92 h93
        subst h91 h93
        obtain ⟨g, hg, hg1, hg2⟩ := hgg (by omega)
        subst hg
        obtain ⟨⟨d, kk, mm⟩, hx⟩ : ∃ x, l2[j]? = some x := ⟨_, List.getElem?_eq_getElem (by omega)⟩
        have HX := Lib.hid hx
        have p0 : wr.cell? ⟨g, j * 3, none⟩ = some (.int .i64 (d : Int)) := hrow.cell (i := j) (j := 0) hx rfl
        have f0 := hrow.frozen (j * 3)
        clear hrow hfr hx hgg hl2 hAr
        go_wp2_with fail
        go_roundw
        case rel =>
          have hst := HROW.out.store (i := j) (j := 0) (y := (77, (kk, mm))) (u := .int .i64 77) HX.out (by decide) rfl
          refine ⟨j + 1, l2.set j (77, (kk, mm)), by first | rfl | rw [HWR.out], by omega, by rw [List.length_set]; exact HL2.out, hst.1, ?_⟩
          exact HFR.out.trans (Fr.grown (S := fun q => some g = some q) hst.2 (fun i hi => hi)) (fun i hi => .inl hi)
        case measure =>
          simp only [intOf]
          omega
      · have hjI : ¬ (j : Int) < (k : Int) := by omega
        have hN9 := hfr.blk (HN.out.below HX2.out) HNN.out
        have hD9 := hfr.blk (HDW.out.below HX2.out) HND.out
        have HQ9 := Lib.hid (hfr.own (HQO.out.below HX2.out) (fun g hg hs => HDIF.out g hs hg)).rd
        have HBF := Lib.hid (show Below W0.heap.size x2 wr from hfr.toBelow (Nat.le_trans HBC.out.size hx2) (fun i hi => (HRO2.out.ge i hi).1))
        have HB9 := Lib.hid (show Below w.heap.size w wr from (below_t HB5.out HX2.out).trans (HBF.out.mono HB0.out.size))
        have b0 := hN9.cell (i := 0) rfl
        have b1 := hN9.cell (i := 1) rfl
        have b2 := hN9.cell (i := 2) rfl
        have d0 := hD9.cell (i := 0) rfl
        have d1 := hD9.cell (i := 1) rfl
        have d2 := hD9.cell (i := 2) rfl
        have hW9 : Rd encX wr (.slice A0 k c0) l := by
          have hz := HBC.out.size
          obtain ⟨A', c', he, q1, q2, hne9⟩ := HR0.out
          refine ⟨A', c', he, q1, q2, fun h0 => ?_⟩
          obtain ⟨b, o, hA', hlt, hcs⟩ := hne9 h0
          have hw : Below W0.heap.size W0 wr := (HBC.out.trans (HX2.out.mono hz)).trans HBF.out
          exact ⟨b, o, hA', Nat.lt_of_lt_of_le hlt hw.size, fun i x hx j u hu => (hw.cell (p := ⟨b, _, none⟩) hlt).trans (hcs i x hx j u hu)⟩
        have HW9 := Lib.hid hW9
        clear hrow hfr hl2 hAr hN9 hD9 hW9
        go_wp2_with fail
        refine (rsameZ_c (rd_z HQ9.out) (rd_z HW9.out) HZL.out HK5.out).mono ?_
        rintro e x3 ⟨rfl, hb3⟩
        have HX3 := Lib.hid (below_t HB9.out hb3)
        clear hb3 b0 b1 b2 d0 d1 d2 a0
        go_wp2_with fail
        refine (awake15_c (HT.out.below HX3.out)).mono ?_
        rintro e x4 ⟨rfl, hb4⟩
        have HX4 := Lib.hid (below_t HX3.out hb4)
        clear hb4
        go_wp2_with fail
        go_ret
        exact ⟨rfl, HX4.out⟩
end ReactW
end Go.Proofs.YtlahkmkipciiiaaDoor
