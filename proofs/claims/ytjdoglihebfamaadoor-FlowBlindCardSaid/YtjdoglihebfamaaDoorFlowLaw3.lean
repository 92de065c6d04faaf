/-
  FlowBlind: light and draw change nothing.
-/
import Derived.Test.YtjdoglihebfamaaDoorFlowWorks
namespace Go.Proofs.YtjdoglihebfamaaDoor
open Go.RowKit
set_option linter.unusedVariables false
set_option linter.unusedSimpArgs false
namespace FlowW
open BlkP RowG FrS PushG FlowP
theorem yieldN {w : World} {a : Act} {o : Oper} {p : Nat} {n : Nr} {x : Operand} (ho : o.op = .load TN x) (hx : a.eval x = .pointer (some ⟨p, 0, none⟩)) (hk : Blk w p TN (vals n)) : (execOp a.eval o).run Tryd.prog w = .ok (.value (nv n)) w := by
  unfold execOp
  simp only [ho, hx, Instr.loadAt, Instr.sureAddr, Sem.run_bind, Sem.run_pure, Result.andThen_ok, run_loadN hk]
  rfl
set_option maxRecDepth 100000 in
set_option maxHeartbeats 32000000 in
theorem law_blind {w : World} (hT : KindW.Tab w) (n : Nr) (light : Nat) (draw : Int) : Calls Tryd.prog 5 #[nv n, .int .u8 (light : Int), .int .u64 draw] w fun e w' => e = .returned (.bool true) ∧ Below w.heap.size w w' := by
  have HT := Lib.hid hT
  clear hT
  obtain ⟨m, hm⟩ : ∃ m, ({n with lt := light, dr := draw} : Nr) = m := ⟨_, rfl⟩
  have HM := Lib.hid hm
  have HW := Lib.hid (show want m = want n from by rw [← hm]; exact want_bl n light draw)
  have HDM := Lib.hid (show deed m = deed n from by rw [← hm]; exact deed_bl n light draw)
  clear hm
  go_enter Tryd.func5, Tryd.ntmps5
  go_wp2_with ((with_reducible refine at_slot 3 ?_); refine Classical.byContradiction (fun hG => ?_))
  refine hG ?_
  clear hG
  refine wp_boxN rfl (.tmp 0) rfl rfl ?_
  intro w1 h1 hb1 hz1
  obtain ⟨s, hs⟩ : ∃ s, w.heap.size = s := ⟨_, rfl⟩
  rw [hs] at h1 hz1
  rw [hs]
  have HB1 := Lib.hid hb1
  have H1 := Lib.hid h1
  have HS := Lib.hid hs
  clear h1 hb1
  go_wp2_with ((with_reducible refine at_slot 14 ?_); refine Classical.byContradiction (fun hG => ?_))
  refine hG ?_
  clear hG
  refine wp_loadN rfl (.tmp 3) rfl rfl (n := n) H1.out ?_
  go_wp2_with ((with_reducible refine at_storeN ?_); refine Classical.byContradiction (fun hG => ?_))
  refine hG ?_
  clear hG
  have z1 := HB1.out.size
  refine list_named (S := fun W => Below w.heap.size w W ∧ Blk W s TN (vals n) ∧ Blk W (s + 1) TN (vals nz)) ⟨by (repeat' (first | (with_reducible exact Below.refl _ _) | (with_reducible refine Below.setCell ?_ (by (first | omega | (simp; done) | (simp; omega))) _) | (with_reducible refine Below.alloc ?_ (by (first | omega | (simp; done) | (simp; omega))) _) | (with_reducible refine Below.drew ?_) | (with_reducible refine below_drewN ?_ _) | (with_reducible refine Below.trans ?_ (Below.mono HB1.out (by (first | omega | (simp; done) | (simp; omega))))))), by (repeat' (first | (with_reducible exact H1.out) | (with_reducible refine BlkP.Blk.drew ?_) | (with_reducible refine BlkP.Blk.drewN ?_ _) | (with_reducible refine BlkP.Blk.setAt (us := ?_) (by first | omega | (simp; done) | (simp; omega)) rfl ?_ ?_) | (with_reducible refine BlkP.Blk.otherAt ?_ (by first | omega | (simp; done) | (simp; omega))) | (with_reducible refine BlkP.Blk.newA' (by first | omega | (simp; done) | (simp; omega)) rfl) | (with_reducible refine BlkP.Blk.alloc ?_ _) | (exact rfl))), by (repeat' (first | (with_reducible refine BlkP.Blk.drew ?_) | (with_reducible refine BlkP.Blk.drewN ?_ _) | (with_reducible refine BlkP.Blk.setAt (us := ?_) (by first | omega | (simp; done) | (simp; omega)) rfl ?_ ?_) | (with_reducible refine BlkP.Blk.otherAt ?_ (by first | omega | (simp; done) | (simp; omega))) | (with_reducible refine BlkP.Blk.newA' (by first | omega | (simp; done) | (simp; omega)) rfl) | (with_reducible refine BlkP.Blk.alloc ?_ _) | (exact rfl)))⟩ ?_
  rintro w2 ⟨hb2, h2, g2⟩
  try rw [hz1]
  refine wp_storeN rfl (.tmp 7) (.tmp 14) rfl rfl rfl g2 rfl ?_
  intro w3 h3 hg3 hz3
  have HB3 := Lib.hid (show Below w.heap.size w w3 from hb2.grown hg3 (by have := hb2.size; omega) (fun k hk => by injection hk with hk; have := HS.out; omega))
  have H3 := Lib.hid (h2.grown hg3 (by simp))
  have c22 : w3.cell? ⟨s + 1, 22, none⟩ = some (.int .u8 (n.lt : Int)) := h3.cell rfl
  have c23 : w3.cell? ⟨s + 1, 23, none⟩ = some (.int .u64 n.dr) := h3.cell rfl
  have f22 := h3.frozen 22
  have f23 := h3.frozen 23
  clear hb2 h2 g2 hg3 hz3 hz1 z1
  go_wp2_with ((with_reducible refine at_slot 20 ?_); refine Classical.byContradiction (fun hG => ?_))
  refine hG ?_
  clear hG
  refine list_named (S := fun W => Below w.heap.size w W ∧ Blk W s TN (vals n) ∧ Blk W (s + 1) TN (vals m)) ⟨(HB3.out.setCell (by have := HS.out; simp; omega) _).setCell (by have := HS.out; simp; omega) _, (H3.out.other (by simp) _).other (by simp) _, by
    rw [← HM.out]
    exact (h3.set 22 (.int .u8 (light : Int))).set 23 (.int .u64 draw)⟩ ?_
  rintro w4 ⟨hb4, h4, g4⟩
  have HB4 := Lib.hid hb4
  have H4 := Lib.hid h4
  have G4 := Lib.hid g4
  clear c22 c23 f22 f23 h3 hb4 h4 g4 hs
  refine wp_loadN rfl (.tmp 3) rfl rfl (n := n) H4.out ?_
  go_wp2_with fail
  refine (Want_c (HT.out.below HB4.out)).mono ?_
  rintro e w5 ⟨rfl, hb5⟩
  obtain ⟨⟨wl, wb⟩, hwt⟩ : ∃ x, want n = x := ⟨_, rfl⟩
  rw [hwt]
  have HWT := Lib.hid hwt
  have HB5 := Lib.hid (below_t HB4.out hb5)
  have H5 := Lib.hid (H4.out.below hb5)
  have G5 := Lib.hid (G4.out.below hb5)
  clear hb5 hwt
  go_wp2_with ((with_reducible refine at_slot 25 ?_); refine Classical.byContradiction (fun hG => ?_))
  refine hG ?_
  clear hG
  refine wp_loadN rfl (.tmp 7) rfl rfl (n := m) G5.out ?_
  go_wp2_with fail
  refine (Want_c (HT.out.below HB5.out)).mono ?_
  rintro e w6 ⟨rfl, hb6⟩
  rw [HW.out, HWT.out]
  have HB6 := Lib.hid (below_t HB5.out hb6)
  have H6 := Lib.hid (H5.out.below hb6)
  have G6 := Lib.hid (G5.out.below hb6)
  clear hb6
  obtain ⟨l, hl⟩ : ∃ l, deed n = l := ⟨_, rfl⟩
  have HL := Lib.hid hl
  obtain ⟨k, hk⟩ : ∃ k, l.length = k := ⟨_, rfl⟩
  have HK := Lib.hid hk
  have HK4 := Lib.hid (show k ≤ 100 from by
    have q := deed_len (snd n)
    rw [show deedS (snd n) = l from hl, hk] at q
    omega)
  clear hl hk
  go_wp2_with fail
  refine HeldP.wp_named (S := fun W => Below w6.heap.size w6 W) (Below.refl _ _) ?_
  rintro W0 hb0
  have HB0 := Lib.hid (below_t HB6.out hb0)
  have H0 := Lib.hid (H6.out.below hb0)
  have G0 := Lib.hid (G6.out.below hb0)
  clear hb0
  refine wp_region_noPanic ?_
  refine wp_region_held_drew (S := fun W => Below W0.heap.size W0 W) (by kernel_rfl) ((Below.refl _ W0).drew) (fun hHeld => ?_)
  refine wpAnyH_take (i := 0) (oi := ⟨some 29, _, _, _, _, _⟩) (v := nv n) rfl (by kernel_rfl) (by kernel_rfl) (by kernel_rfl) (fun _ _ _ h => h) (Or.inl ⟨by rfl, fun W hSW => yieldN rfl rfl (H0.out.below hSW)⟩) hHeld ?_
  simp only [Act.put, List.setIfInBounds_toArray, List.set_cons_zero, List.set_cons_succ]
  refine wpAnyH_take (i := 2) (oi := ⟨some 31, _, _, _, _, _⟩) (v := nv m) rfl (by kernel_rfl) (by kernel_rfl) (by kernel_rfl) (fun _ _ _ h => h) (Or.inl ⟨by rfl, fun W hSW => yieldN rfl rfl (G0.out.below hSW)⟩) hHeld ?_
  simp only [Act.put, List.setIfInBounds_toArray, List.set_cons_zero, List.set_cons_succ]
  refine any_named (fun W => Below W0.heap.size W0 W) hHeld ?_
  clear hHeld
  rintro v0 hHeld
  have hSv0 := hHeld.size
  refine wpAnyH_ready (rs := [1, 4, 5]) (by kernel_rfl) (by simp) ?_
  refine AllReadyH.cons (o := ⟨some 30, _, _, _, _, _⟩) rfl (fun K hK => ?_) ?_
  · have hHeld0 := hHeld.size
    go_simp
    refine (Next_c (n := n) (HT.out.below (below_t HB0.out hHeld))).mono ?_
    rintro e wf ⟨vf, rfl, hof, hbf⟩
    rw [HL.out] at hof
    obtain ⟨AR, cR, rfl, _, _, _⟩ := hof.form HK.out
    go_wp2_with fail
    refine hK.out _ _ (below_t hHeld hbf) (fun hHeld => ?_)
    clear hK K
    refine any_named (fun W => Below W0.heap.size W0 W ∧ RowG.Own encX TX W W0.heap.size (.slice AR k cR) l) ⟨hHeld, hof.mono (show W0.heap.size ≤ _ from hHeld0)⟩ ?_
    clear hHeld
    rintro v1 ⟨hHeld, hR⟩
    have hSv1 := hHeld.size
    clear hof hbf
    refine wpAnyH_ready (rs := [3, 4, 5]) (by kernel_rfl) (by simp) ?_
    refine AllReadyH.cons (o := ⟨some 32, _, _, _, _, _⟩) rfl (fun K hK => ?_) ?_
    · have hHeld0 := hHeld.size
      go_simp
      refine (Next_c (n := m) (HT.out.below (below_t HB0.out hHeld))).mono ?_
      rintro e wf ⟨vf, rfl, hof, hbf⟩
      rw [HDM.out, HL.out] at hof
      obtain ⟨AQ, cQ, rfl, _, _, _⟩ := hof.form HK.out
      go_wp2_with fail
      refine hK.out _ _ (below_t hHeld hbf) (fun hHeld => ?_)
      clear hK K
      refine any_named (fun W => Below W0.heap.size W0 W ∧ RowG.Own encX TX W W0.heap.size (.slice AR k cR) l ∧ RowG.Own encX TX W W0.heap.size (.slice AQ k cQ) l) ⟨hHeld, hR.below hbf, hof.mono (show W0.heap.size ≤ _ from hHeld0)⟩ ?_
      clear hHeld hR
      rintro v2 ⟨hHeld, hR, hQ⟩
      have hSv2 := hHeld.size
      clear hof hbf
      refine wpAnyH_ready (rs := [4, 5]) (by kernel_rfl) (by simp) ?_
      refine AllReadyH.cons (o := ⟨some 12, _, _, _, _, _⟩) rfl (fun K hK => ?_) ?_
      · go_simp
        refine hK.out _ _ (hHeld.alloc hHeld.size _) (fun hHeld => ?_)
        clear hK K
        refine any_named (fun W => Below W0.heap.size W0 W ∧ Blk W v2.heap.size TD [.slice none 0 0, .int .i64 0, .int .i64 0] ∧ RowG.Own encX TX W W0.heap.size (.slice AR k cR) l ∧ RowG.Own encX TX W W0.heap.size (.slice AQ k cQ) l) ⟨hHeld, by (repeat' (first | (with_reducible refine BlkP.Blk.drew ?_) | (with_reducible refine BlkP.Blk.drewN ?_ _) | (with_reducible refine BlkP.Blk.setAt (us := ?_) (by first | omega | (simp; done) | (simp; omega)) rfl ?_ ?_) | (with_reducible refine BlkP.Blk.otherAt ?_ (by first | omega | (simp; done) | (simp; omega))) | (with_reducible refine BlkP.Blk.newA' (by first | omega | (simp; done) | (simp; omega)) rfl) | (with_reducible refine BlkP.Blk.alloc ?_ _) | (exact rfl))), hR.below (by (repeat' (first | (with_reducible exact Below.refl _ _) | (with_reducible refine Below.setCell ?_ (by (first | omega | (simp; done) | (simp; omega))) _) | (with_reducible refine Below.alloc ?_ (by (first | omega | (simp; done) | (simp; omega))) _) | (with_reducible refine Below.drew ?_) | (with_reducible refine below_drewN ?_ _)))), hQ.below (by (repeat' (first | (with_reducible exact Below.refl _ _) | (with_reducible refine Below.setCell ?_ (by (first | omega | (simp; done) | (simp; omega))) _) | (with_reducible refine Below.alloc ?_ (by (first | omega | (simp; done) | (simp; omega))) _) | (with_reducible refine Below.drew ?_) | (with_reducible refine below_drewN ?_ _))))⟩ ?_
        clear hHeld hR hQ
        rintro v3 ⟨hHeld, hA, hR, hQ⟩
        have hSv3 := hHeld.size
        refine wpAnyH_ready (rs := [5]) (by kernel_rfl) (by simp) ?_
        refine AllReadyH.cons (o := ⟨some 13, _, _, _, _, _⟩) rfl (fun K hK => ?_) ?_
        · go_simp
          refine hK.out _ _ (hHeld.alloc hHeld.size _) (fun hHeld => ?_)
          clear hK K
          have lA := hA.lt
          refine any_named (fun W => Below W0.heap.size W0 W ∧ Blk W v2.heap.size TD [.slice none 0 0, .int .i64 0, .int .i64 0] ∧ Blk W v3.heap.size TD [.slice none 0 0, .int .i64 0, .int .i64 0] ∧ RowG.Own encX TX W W0.heap.size (.slice AR k cR) l ∧ RowG.Own encX TX W W0.heap.size (.slice AQ k cQ) l) ⟨hHeld, by (repeat' (first | (with_reducible exact hA) | (with_reducible refine BlkP.Blk.drew ?_) | (with_reducible refine BlkP.Blk.drewN ?_ _) | (with_reducible refine BlkP.Blk.setAt (us := ?_) (by first | omega | (simp; done) | (simp; omega)) rfl ?_ ?_) | (with_reducible refine BlkP.Blk.otherAt ?_ (by first | omega | (simp; done) | (simp; omega))) | (with_reducible refine BlkP.Blk.newA' (by first | omega | (simp; done) | (simp; omega)) rfl) | (with_reducible refine BlkP.Blk.alloc ?_ _) | (exact rfl))), by (repeat' (first | (with_reducible refine BlkP.Blk.drew ?_) | (with_reducible refine BlkP.Blk.drewN ?_ _) | (with_reducible refine BlkP.Blk.setAt (us := ?_) (by first | omega | (simp; done) | (simp; omega)) rfl ?_ ?_) | (with_reducible refine BlkP.Blk.otherAt ?_ (by first | omega | (simp; done) | (simp; omega))) | (with_reducible refine BlkP.Blk.newA' (by first | omega | (simp; done) | (simp; omega)) rfl) | (with_reducible refine BlkP.Blk.alloc ?_ _) | (exact rfl))), hR.below (by (repeat' (first | (with_reducible exact Below.refl _ _) | (with_reducible refine Below.setCell ?_ (by (first | omega | (simp; done) | (simp; omega))) _) | (with_reducible refine Below.alloc ?_ (by (first | omega | (simp; done) | (simp; omega))) _) | (with_reducible refine Below.drew ?_) | (with_reducible refine below_drewN ?_ _)))), hQ.below (by (repeat' (first | (with_reducible exact Below.refl _ _) | (with_reducible refine Below.setCell ?_ (by (first | omega | (simp; done) | (simp; omega))) _) | (with_reducible refine Below.alloc ?_ (by (first | omega | (simp; done) | (simp; omega))) _) | (with_reducible refine Below.drew ?_) | (with_reducible refine below_drewN ?_ _))))⟩ ?_
          clear hHeld hA hR hQ
          rintro v4 ⟨hHeld, hA, hN, hR, hQ⟩
          have hSv4 := hHeld.size
          refine wpAnyH_ready (rs := [6]) (by kernel_rfl) (by simp) ?_
          refine AllReadyH.cons (o := ⟨none, _, _, _, _, _⟩) rfl (fun K hK => ?_) ?_
          · have e0 := hA.cell (i := 0) (v := .slice none 0 0) rfl
            have f0 := hA.frozen 0
            have e1 := hA.cell (i := 1) (v := .int .i64 0) rfl
            have f1 := hA.frozen 1
            have e2 := hA.cell (i := 2) (v := .int .i64 0) rfl
            have f2 := hA.frozen 2
            have lA := hA.lt
            have lN := hN.lt
            go_simp
            refine hK.out _ _ (by (repeat' (first | (with_reducible exact Below.refl _ _) | (with_reducible refine Below.setCell ?_ (by (first | omega | (simp; done) | (simp; omega))) _) | (with_reducible refine Below.alloc ?_ (by (first | omega | (simp; done) | (simp; omega))) _) | (with_reducible refine Below.drew ?_) | (with_reducible refine below_drewN ?_ _) | (with_reducible refine Below.trans ?_ (Below.mono hHeld (by (first | omega | (simp; done) | (simp; omega)))))))) (fun hHeld => ?_)
            clear hK K
            clear e0 e1 e2 f0 f1 f2
            refine any_named (fun W => Below W0.heap.size W0 W ∧ Blk W v2.heap.size TD [.slice AR k cR, .int .i64 0, .int .i64 0] ∧ Blk W v3.heap.size TD [.slice none 0 0, .int .i64 0, .int .i64 0] ∧ RowG.Own encX TX W W0.heap.size (.slice AR k cR) l ∧ RowG.Own encX TX W W0.heap.size (.slice AQ k cQ) l) ⟨hHeld, by (repeat' (first | (with_reducible exact hA) | (with_reducible refine BlkP.Blk.drew ?_) | (with_reducible refine BlkP.Blk.drewN ?_ _) | (with_reducible refine BlkP.Blk.setAt (us := ?_) (by first | omega | (simp; done) | (simp; omega)) rfl ?_ ?_) | (with_reducible refine BlkP.Blk.otherAt ?_ (by first | omega | (simp; done) | (simp; omega))) | (with_reducible refine BlkP.Blk.newA' (by first | omega | (simp; done) | (simp; omega)) rfl) | (with_reducible refine BlkP.Blk.alloc ?_ _) | (exact rfl))), by (repeat' (first | (with_reducible exact hN) | (with_reducible refine BlkP.Blk.drew ?_) | (with_reducible refine BlkP.Blk.drewN ?_ _) | (with_reducible refine BlkP.Blk.setAt (us := ?_) (by first | omega | (simp; done) | (simp; omega)) rfl ?_ ?_) | (with_reducible refine BlkP.Blk.otherAt ?_ (by first | omega | (simp; done) | (simp; omega))) | (with_reducible refine BlkP.Blk.newA' (by first | omega | (simp; done) | (simp; omega)) rfl) | (with_reducible refine BlkP.Blk.alloc ?_ _) | (exact rfl))), by first | exact own_set3 hR hA | exact own_set3 hR.drew hA.drew, by first | exact own_set3 hQ hA | exact own_set3 hQ.drew hA.drew⟩ ?_
            clear hHeld hA hN hR hQ
            rintro v5 ⟨hHeld, hA, hN, hR, hQ⟩
            have hSv5 := hHeld.size
            refine wpAnyH_ready (rs := [7]) (by kernel_rfl) (by simp) ?_
            refine AllReadyH.cons (o := ⟨none, _, _, _, _, _⟩) rfl (fun K hK => ?_) ?_
            · have e0 := hN.cell (i := 0) (v := .slice none 0 0) rfl
              have f0 := hN.frozen 0
              have e1 := hN.cell (i := 1) (v := .int .i64 0) rfl
              have f1 := hN.frozen 1
              have e2 := hN.cell (i := 2) (v := .int .i64 0) rfl
              have f2 := hN.frozen 2
              have lA := hA.lt
              have lN := hN.lt
              go_simp
              refine hK.out _ _ (by (repeat' (first | (with_reducible exact Below.refl _ _) | (with_reducible refine Below.setCell ?_ (by (first | omega | (simp; done) | (simp; omega))) _) | (with_reducible refine Below.alloc ?_ (by (first | omega | (simp; done) | (simp; omega))) _) | (with_reducible refine Below.drew ?_) | (with_reducible refine below_drewN ?_ _) | (with_reducible refine Below.trans ?_ (Below.mono hHeld (by (first | omega | (simp; done) | (simp; omega)))))))) (fun hHeld => ?_)
              clear hK K
              clear e0 e1 e2 f0 f1 f2
              refine any_named (fun W => Below W0.heap.size W0 W ∧ Blk W v2.heap.size TD [.slice AR k cR, .int .i64 0, .int .i64 0] ∧ Blk W v3.heap.size TD [.slice AQ k cQ, .int .i64 0, .int .i64 0] ∧ RowG.Own encX TX W W0.heap.size (.slice AR k cR) l ∧ RowG.Own encX TX W W0.heap.size (.slice AQ k cQ) l) ⟨hHeld, by (repeat' (first | (with_reducible exact hA) | (with_reducible refine BlkP.Blk.drew ?_) | (with_reducible refine BlkP.Blk.drewN ?_ _) | (with_reducible refine BlkP.Blk.setAt (us := ?_) (by first | omega | (simp; done) | (simp; omega)) rfl ?_ ?_) | (with_reducible refine BlkP.Blk.otherAt ?_ (by first | omega | (simp; done) | (simp; omega))) | (with_reducible refine BlkP.Blk.newA' (by first | omega | (simp; done) | (simp; omega)) rfl) | (with_reducible refine BlkP.Blk.alloc ?_ _) | (exact rfl))), by (repeat' (first | (with_reducible exact hN) | (with_reducible refine BlkP.Blk.drew ?_) | (with_reducible refine BlkP.Blk.drewN ?_ _) | (with_reducible refine BlkP.Blk.setAt (us := ?_) (by first | omega | (simp; done) | (simp; omega)) rfl ?_ ?_) | (with_reducible refine BlkP.Blk.otherAt ?_ (by first | omega | (simp; done) | (simp; omega))) | (with_reducible refine BlkP.Blk.newA' (by first | omega | (simp; done) | (simp; omega)) rfl) | (with_reducible refine BlkP.Blk.alloc ?_ _) | (exact rfl))), by first | exact own_set3 hR hN | exact own_set3 hR.drew hN.drew, by first | exact own_set3 hQ hN | exact own_set3 hQ.drew hN.drew⟩ ?_
              clear hHeld hA hN hR hQ
              rintro v6 ⟨hHeld, hA, hN, hR, hQ⟩
              have hSv6 := hHeld.size
              refine wpAnyH_done (by kernel_rfl) ?_ _
              refine NoPanic.normal ?_
              have a0 := hA.cell (i := 0) rfl
              have a1 := hA.cell (i := 1) rfl
              have a2 := hA.cell (i := 2) rfl
              have b0 := hN.cell (i := 0) rfl
              have b1 := hN.cell (i := 1) rfl
              have b2 := hN.cell (i := 2) rfl
              have HBE := Lib.hid (below_t HB0.out hHeld)
              have HRE := Lib.hid hR.rd
              have HQE := Lib.hid hQ.rd
              clear hA hN hR hQ hHeld
              go_wp2_with fail
              refine (same_c HRE.out HQE.out HK.out HK4.out).mono ?_
              rintro e x1 ⟨rfl, hbx⟩
              have HX1 := Lib.hid (below_t HBE.out hbx)
              clear hbx a0 a1 a2 b0 b1 b2
              go_wp2_with fail
              refine (works_c (HT.out.below HX1.out)).mono ?_
              rintro e x2 ⟨rfl, hbx⟩
              have HX2 := Lib.hid (below_t HX1.out hbx)
              clear hbx
              go_wp2_with fail
              go_ret
              exact ⟨rfl, HX2.out⟩
            exact AllReadyH.nil
          exact AllReadyH.nil
        exact AllReadyH.nil
      refine AllReadyH.cons (o := ⟨some 13, _, _, _, _, _⟩) rfl (fun K hK => ?_) ?_
      · go_simp
        refine hK.out _ _ (hHeld.alloc hHeld.size _) (fun hHeld => ?_)
        clear hK K
        refine any_named (fun W => Below W0.heap.size W0 W ∧ Blk W v2.heap.size TD [.slice none 0 0, .int .i64 0, .int .i64 0] ∧ RowG.Own encX TX W W0.heap.size (.slice AR k cR) l ∧ RowG.Own encX TX W W0.heap.size (.slice AQ k cQ) l) ⟨hHeld, by (repeat' (first | (with_reducible refine BlkP.Blk.drew ?_) | (with_reducible refine BlkP.Blk.drewN ?_ _) | (with_reducible refine BlkP.Blk.setAt (us := ?_) (by first | omega | (simp; done) | (simp; omega)) rfl ?_ ?_) | (with_reducible refine BlkP.Blk.otherAt ?_ (by first | omega | (simp; done) | (simp; omega))) | (with_reducible refine BlkP.Blk.newA' (by first | omega | (simp; done) | (simp; omega)) rfl) | (with_reducible refine BlkP.Blk.alloc ?_ _) | (exact rfl))), hR.below (by (repeat' (first | (with_reducible exact Below.refl _ _) | (with_reducible refine Below.setCell ?_ (by (first | omega | (simp; done) | (simp; omega))) _) | (with_reducible refine Below.alloc ?_ (by (first | omega | (simp; done) | (simp; omega))) _) | (with_reducible refine Below.drew ?_) | (with_reducible refine below_drewN ?_ _)))), hQ.below (by (repeat' (first | (with_reducible exact Below.refl _ _) | (with_reducible refine Below.setCell ?_ (by (first | omega | (simp; done) | (simp; omega))) _) | (with_reducible refine Below.alloc ?_ (by (first | omega | (simp; done) | (simp; omega))) _) | (with_reducible refine Below.drew ?_) | (with_reducible refine below_drewN ?_ _))))⟩ ?_
        clear hHeld hR hQ
        rintro v3 ⟨hHeld, hN, hR, hQ⟩
        have hSv3 := hHeld.size
        refine wpAnyH_ready (rs := [4]) (by kernel_rfl) (by simp) ?_
        refine AllReadyH.cons (o := ⟨some 12, _, _, _, _, _⟩) rfl (fun K hK => ?_) ?_
        · go_simp
          refine hK.out _ _ (hHeld.alloc hHeld.size _) (fun hHeld => ?_)
          clear hK K
          have lN := hN.lt
          refine any_named (fun W => Below W0.heap.size W0 W ∧ Blk W v3.heap.size TD [.slice none 0 0, .int .i64 0, .int .i64 0] ∧ Blk W v2.heap.size TD [.slice none 0 0, .int .i64 0, .int .i64 0] ∧ RowG.Own encX TX W W0.heap.size (.slice AR k cR) l ∧ RowG.Own encX TX W W0.heap.size (.slice AQ k cQ) l) ⟨hHeld, by (repeat' (first | (with_reducible refine BlkP.Blk.drew ?_) | (with_reducible refine BlkP.Blk.drewN ?_ _) | (with_reducible refine BlkP.Blk.setAt (us := ?_) (by first | omega | (simp; done) | (simp; omega)) rfl ?_ ?_) | (with_reducible refine BlkP.Blk.otherAt ?_ (by first | omega | (simp; done) | (simp; omega))) | (with_reducible refine BlkP.Blk.newA' (by first | omega | (simp; done) | (simp; omega)) rfl) | (with_reducible refine BlkP.Blk.alloc ?_ _) | (exact rfl))), by (repeat' (first | (with_reducible exact hN) | (with_reducible refine BlkP.Blk.drew ?_) | (with_reducible refine BlkP.Blk.drewN ?_ _) | (with_reducible refine BlkP.Blk.setAt (us := ?_) (by first | omega | (simp; done) | (simp; omega)) rfl ?_ ?_) | (with_reducible refine BlkP.Blk.otherAt ?_ (by first | omega | (simp; done) | (simp; omega))) | (with_reducible refine BlkP.Blk.newA' (by first | omega | (simp; done) | (simp; omega)) rfl) | (with_reducible refine BlkP.Blk.alloc ?_ _) | (exact rfl))), hR.below (by (repeat' (first | (with_reducible exact Below.refl _ _) | (with_reducible refine Below.setCell ?_ (by (first | omega | (simp; done) | (simp; omega))) _) | (with_reducible refine Below.alloc ?_ (by (first | omega | (simp; done) | (simp; omega))) _) | (with_reducible refine Below.drew ?_) | (with_reducible refine below_drewN ?_ _)))), hQ.below (by (repeat' (first | (with_reducible exact Below.refl _ _) | (with_reducible refine Below.setCell ?_ (by (first | omega | (simp; done) | (simp; omega))) _) | (with_reducible refine Below.alloc ?_ (by (first | omega | (simp; done) | (simp; omega))) _) | (with_reducible refine Below.drew ?_) | (with_reducible refine below_drewN ?_ _))))⟩ ?_
          clear hHeld hN hR hQ
          rintro v4 ⟨hHeld, hA, hN, hR, hQ⟩
          have hSv4 := hHeld.size
          refine wpAnyH_ready (rs := [6]) (by kernel_rfl) (by simp) ?_
          refine AllReadyH.cons (o := ⟨none, _, _, _, _, _⟩) rfl (fun K hK => ?_) ?_
          · have e0 := hA.cell (i := 0) (v := .slice none 0 0) rfl
            have f0 := hA.frozen 0
            have e1 := hA.cell (i := 1) (v := .int .i64 0) rfl
            have f1 := hA.frozen 1
            have e2 := hA.cell (i := 2) (v := .int .i64 0) rfl
            have f2 := hA.frozen 2
            have lA := hA.lt
            have lN := hN.lt
            go_simp
            refine hK.out _ _ (by (repeat' (first | (with_reducible exact Below.refl _ _) | (with_reducible refine Below.setCell ?_ (by (first | omega | (simp; done) | (simp; omega))) _) | (with_reducible refine Below.alloc ?_ (by (first | omega | (simp; done) | (simp; omega))) _) | (with_reducible refine Below.drew ?_) | (with_reducible refine below_drewN ?_ _) | (with_reducible refine Below.trans ?_ (Below.mono hHeld (by (first | omega | (simp; done) | (simp; omega)))))))) (fun hHeld => ?_)
            clear hK K
            clear e0 e1 e2 f0 f1 f2
            refine any_named (fun W => Below W0.heap.size W0 W ∧ Blk W v3.heap.size TD [.slice AR k cR, .int .i64 0, .int .i64 0] ∧ Blk W v2.heap.size TD [.slice none 0 0, .int .i64 0, .int .i64 0] ∧ RowG.Own encX TX W W0.heap.size (.slice AR k cR) l ∧ RowG.Own encX TX W W0.heap.size (.slice AQ k cQ) l) ⟨hHeld, by (repeat' (first | (with_reducible exact hA) | (with_reducible refine BlkP.Blk.drew ?_) | (with_reducible refine BlkP.Blk.drewN ?_ _) | (with_reducible refine BlkP.Blk.setAt (us := ?_) (by first | omega | (simp; done) | (simp; omega)) rfl ?_ ?_) | (with_reducible refine BlkP.Blk.otherAt ?_ (by first | omega | (simp; done) | (simp; omega))) | (with_reducible refine BlkP.Blk.newA' (by first | omega | (simp; done) | (simp; omega)) rfl) | (with_reducible refine BlkP.Blk.alloc ?_ _) | (exact rfl))), by (repeat' (first | (with_reducible exact hN) | (with_reducible refine BlkP.Blk.drew ?_) | (with_reducible refine BlkP.Blk.drewN ?_ _) | (with_reducible refine BlkP.Blk.setAt (us := ?_) (by first | omega | (simp; done) | (simp; omega)) rfl ?_ ?_) | (with_reducible refine BlkP.Blk.otherAt ?_ (by first | omega | (simp; done) | (simp; omega))) | (with_reducible refine BlkP.Blk.newA' (by first | omega | (simp; done) | (simp; omega)) rfl) | (with_reducible refine BlkP.Blk.alloc ?_ _) | (exact rfl))), by first | exact own_set3 hR hA | exact own_set3 hR.drew hA.drew, by first | exact own_set3 hQ hA | exact own_set3 hQ.drew hA.drew⟩ ?_
            clear hHeld hA hN hR hQ
            rintro v5 ⟨hHeld, hA, hN, hR, hQ⟩
            have hSv5 := hHeld.size
            refine wpAnyH_ready (rs := [7]) (by kernel_rfl) (by simp) ?_
            refine AllReadyH.cons (o := ⟨none, _, _, _, _, _⟩) rfl (fun K hK => ?_) ?_
            · have e0 := hN.cell (i := 0) (v := .slice none 0 0) rfl
              have f0 := hN.frozen 0
              have e1 := hN.cell (i := 1) (v := .int .i64 0) rfl
              have f1 := hN.frozen 1
              have e2 := hN.cell (i := 2) (v := .int .i64 0) rfl
              have f2 := hN.frozen 2
              have lA := hA.lt
              have lN := hN.lt
              go_simp
              refine hK.out _ _ (by (repeat' (first | (with_reducible exact Below.refl _ _) | (with_reducible refine Below.setCell ?_ (by (first | omega | (simp; done) | (simp; omega))) _) | (with_reducible refine Below.alloc ?_ (by (first | omega | (simp; done) | (simp; omega))) _) | (with_reducible refine Below.drew ?_) | (with_reducible refine below_drewN ?_ _) | (with_reducible refine Below.trans ?_ (Below.mono hHeld (by (first | omega | (simp; done) | (simp; omega)))))))) (fun hHeld => ?_)
              clear hK K
              clear e0 e1 e2 f0 f1 f2
              refine any_named (fun W => Below W0.heap.size W0 W ∧ Blk W v3.heap.size TD [.slice AR k cR, .int .i64 0, .int .i64 0] ∧ Blk W v2.heap.size TD [.slice AQ k cQ, .int .i64 0, .int .i64 0] ∧ RowG.Own encX TX W W0.heap.size (.slice AR k cR) l ∧ RowG.Own encX TX W W0.heap.size (.slice AQ k cQ) l) ⟨hHeld, by (repeat' (first | (with_reducible exact hA) | (with_reducible refine BlkP.Blk.drew ?_) | (with_reducible refine BlkP.Blk.drewN ?_ _) | (with_reducible refine BlkP.Blk.setAt (us := ?_) (by first | omega | (simp; done) | (simp; omega)) rfl ?_ ?_) | (with_reducible refine BlkP.Blk.otherAt ?_ (by first | omega | (simp; done) | (simp; omega))) | (with_reducible refine BlkP.Blk.newA' (by first | omega | (simp; done) | (simp; omega)) rfl) | (with_reducible refine BlkP.Blk.alloc ?_ _) | (exact rfl))), by (repeat' (first | (with_reducible exact hN) | (with_reducible refine BlkP.Blk.drew ?_) | (with_reducible refine BlkP.Blk.drewN ?_ _) | (with_reducible refine BlkP.Blk.setAt (us := ?_) (by first | omega | (simp; done) | (simp; omega)) rfl ?_ ?_) | (with_reducible refine BlkP.Blk.otherAt ?_ (by first | omega | (simp; done) | (simp; omega))) | (with_reducible refine BlkP.Blk.newA' (by first | omega | (simp; done) | (simp; omega)) rfl) | (with_reducible refine BlkP.Blk.alloc ?_ _) | (exact rfl))), by first | exact own_set3 hR hN | exact own_set3 hR.drew hN.drew, by first | exact own_set3 hQ hN | exact own_set3 hQ.drew hN.drew⟩ ?_
              clear hHeld hA hN hR hQ
              rintro v6 ⟨hHeld, hA, hN, hR, hQ⟩
              have hSv6 := hHeld.size
              refine wpAnyH_done (by kernel_rfl) ?_ _
              refine NoPanic.normal ?_
              have a0 := hA.cell (i := 0) rfl
              have a1 := hA.cell (i := 1) rfl
              have a2 := hA.cell (i := 2) rfl
              have b0 := hN.cell (i := 0) rfl
              have b1 := hN.cell (i := 1) rfl
              have b2 := hN.cell (i := 2) rfl
              have HBE := Lib.hid (below_t HB0.out hHeld)
              have HRE := Lib.hid hR.rd
              have HQE := Lib.hid hQ.rd
              clear hA hN hR hQ hHeld
              go_wp2_with fail
              refine (same_c HRE.out HQE.out HK.out HK4.out).mono ?_
              rintro e x1 ⟨rfl, hbx⟩
              have HX1 := Lib.hid (below_t HBE.out hbx)
              clear hbx a0 a1 a2 b0 b1 b2
              go_wp2_with fail
              refine (works_c (HT.out.below HX1.out)).mono ?_
              rintro e x2 ⟨rfl, hbx⟩
              have HX2 := Lib.hid (below_t HX1.out hbx)
              clear hbx
              go_wp2_with fail
              go_ret
              exact ⟨rfl, HX2.out⟩
            exact AllReadyH.nil
          exact AllReadyH.nil
        exact AllReadyH.nil
      exact AllReadyH.nil
    refine AllReadyH.cons (o := ⟨some 12, _, _, _, _, _⟩) rfl (fun K hK => ?_) ?_
    · go_simp
      refine hK.out _ _ (hHeld.alloc hHeld.size _) (fun hHeld => ?_)
      clear hK K
      refine any_named (fun W => Below W0.heap.size W0 W ∧ Blk W v1.heap.size TD [.slice none 0 0, .int .i64 0, .int .i64 0] ∧ RowG.Own encX TX W W0.heap.size (.slice AR k cR) l) ⟨hHeld, by (repeat' (first | (with_reducible refine BlkP.Blk.drew ?_) | (with_reducible refine BlkP.Blk.drewN ?_ _) | (with_reducible refine BlkP.Blk.setAt (us := ?_) (by first | omega | (simp; done) | (simp; omega)) rfl ?_ ?_) | (with_reducible refine BlkP.Blk.otherAt ?_ (by first | omega | (simp; done) | (simp; omega))) | (with_reducible refine BlkP.Blk.newA' (by first | omega | (simp; done) | (simp; omega)) rfl) | (with_reducible refine BlkP.Blk.alloc ?_ _) | (exact rfl))), hR.below (by (repeat' (first | (with_reducible exact Below.refl _ _) | (with_reducible refine Below.setCell ?_ (by (first | omega | (simp; done) | (simp; omega))) _) | (with_reducible refine Below.alloc ?_ (by (first | omega | (simp; done) | (simp; omega))) _) | (with_reducible refine Below.drew ?_) | (with_reducible refine below_drewN ?_ _))))⟩ ?_
      clear hHeld hR
      rintro v2 ⟨hHeld, hA, hR⟩
      have hSv2 := hHeld.size
      refine wpAnyH_ready (rs := [3, 5]) (by kernel_rfl) (by simp) ?_
      refine AllReadyH.cons (o := ⟨some 32, _, _, _, _, _⟩) rfl (fun K hK => ?_) ?_
      · have hHeld0 := hHeld.size
        go_simp
        refine (Next_c (n := m) (HT.out.below (below_t HB0.out hHeld))).mono ?_
        rintro e wf ⟨vf, rfl, hof, hbf⟩
        rw [HDM.out, HL.out] at hof
        obtain ⟨AQ, cQ, rfl, _, _, _⟩ := hof.form HK.out
        go_wp2_with fail
        refine hK.out _ _ (below_t hHeld hbf) (fun hHeld => ?_)
        clear hK K
        refine any_named (fun W => Below W0.heap.size W0 W ∧ Blk W v1.heap.size TD [.slice none 0 0, .int .i64 0, .int .i64 0] ∧ RowG.Own encX TX W W0.heap.size (.slice AR k cR) l ∧ RowG.Own encX TX W W0.heap.size (.slice AQ k cQ) l) ⟨hHeld, hA.below hbf, hR.below hbf, hof.mono (show W0.heap.size ≤ _ from hHeld0)⟩ ?_
        clear hHeld hA hR
        rintro v3 ⟨hHeld, hA, hR, hQ⟩
        have hSv3 := hHeld.size
        clear hof hbf
        refine wpAnyH_ready (rs := [5]) (by kernel_rfl) (by simp) ?_
        refine AllReadyH.cons (o := ⟨some 13, _, _, _, _, _⟩) rfl (fun K hK => ?_) ?_
        · go_simp
          refine hK.out _ _ (hHeld.alloc hHeld.size _) (fun hHeld => ?_)
          clear hK K
          have lA := hA.lt
          refine any_named (fun W => Below W0.heap.size W0 W ∧ Blk W v1.heap.size TD [.slice none 0 0, .int .i64 0, .int .i64 0] ∧ Blk W v3.heap.size TD [.slice none 0 0, .int .i64 0, .int .i64 0] ∧ RowG.Own encX TX W W0.heap.size (.slice AR k cR) l ∧ RowG.Own encX TX W W0.heap.size (.slice AQ k cQ) l) ⟨hHeld, by (repeat' (first | (with_reducible exact hA) | (with_reducible refine BlkP.Blk.drew ?_) | (with_reducible refine BlkP.Blk.drewN ?_ _) | (with_reducible refine BlkP.Blk.setAt (us := ?_) (by first | omega | (simp; done) | (simp; omega)) rfl ?_ ?_) | (with_reducible refine BlkP.Blk.otherAt ?_ (by first | omega | (simp; done) | (simp; omega))) | (with_reducible refine BlkP.Blk.newA' (by first | omega | (simp; done) | (simp; omega)) rfl) | (with_reducible refine BlkP.Blk.alloc ?_ _) | (exact rfl))), by (repeat' (first | (with_reducible refine BlkP.Blk.drew ?_) | (with_reducible refine BlkP.Blk.drewN ?_ _) | (with_reducible refine BlkP.Blk.setAt (us := ?_) (by first | omega | (simp; done) | (simp; omega)) rfl ?_ ?_) | (with_reducible refine BlkP.Blk.otherAt ?_ (by first | omega | (simp; done) | (simp; omega))) | (with_reducible refine BlkP.Blk.newA' (by first | omega | (simp; done) | (simp; omega)) rfl) | (with_reducible refine BlkP.Blk.alloc ?_ _) | (exact rfl))), hR.below (by (repeat' (first | (with_reducible exact Below.refl _ _) | (with_reducible refine Below.setCell ?_ (by (first | omega | (simp; done) | (simp; omega))) _) | (with_reducible refine Below.alloc ?_ (by (first | omega | (simp; done) | (simp; omega))) _) | (with_reducible refine Below.drew ?_) | (with_reducible refine below_drewN ?_ _)))), hQ.below (by (repeat' (first | (with_reducible exact Below.refl _ _) | (with_reducible refine Below.setCell ?_ (by (first | omega | (simp; done) | (simp; omega))) _) | (with_reducible refine Below.alloc ?_ (by (first | omega | (simp; done) | (simp; omega))) _) | (with_reducible refine Below.drew ?_) | (with_reducible refine below_drewN ?_ _))))⟩ ?_
          clear hHeld hA hR hQ
          rintro v4 ⟨hHeld, hA, hN, hR, hQ⟩
          have hSv4 := hHeld.size
          refine wpAnyH_ready (rs := [6]) (by kernel_rfl) (by simp) ?_
          refine AllReadyH.cons (o := ⟨none, _, _, _, _, _⟩) rfl (fun K hK => ?_) ?_
          · have e0 := hA.cell (i := 0) (v := .slice none 0 0) rfl
            have f0 := hA.frozen 0
            have e1 := hA.cell (i := 1) (v := .int .i64 0) rfl
            have f1 := hA.frozen 1
            have e2 := hA.cell (i := 2) (v := .int .i64 0) rfl
            have f2 := hA.frozen 2
            have lA := hA.lt
            have lN := hN.lt
            go_simp
            refine hK.out _ _ (by (repeat' (first | (with_reducible exact Below.refl _ _) | (with_reducible refine Below.setCell ?_ (by (first | omega | (simp; done) | (simp; omega))) _) | (with_reducible refine Below.alloc ?_ (by (first | omega | (simp; done) | (simp; omega))) _) | (with_reducible refine Below.drew ?_) | (with_reducible refine below_drewN ?_ _) | (with_reducible refine Below.trans ?_ (Below.mono hHeld (by (first | omega | (simp; done) | (simp; omega)))))))) (fun hHeld => ?_)
            clear hK K
            clear e0 e1 e2 f0 f1 f2
            refine any_named (fun W => Below W0.heap.size W0 W ∧ Blk W v1.heap.size TD [.slice AR k cR, .int .i64 0, .int .i64 0] ∧ Blk W v3.heap.size TD [.slice none 0 0, .int .i64 0, .int .i64 0] ∧ RowG.Own encX TX W W0.heap.size (.slice AR k cR) l ∧ RowG.Own encX TX W W0.heap.size (.slice AQ k cQ) l) ⟨hHeld, by (repeat' (first | (with_reducible exact hA) | (with_reducible refine BlkP.Blk.drew ?_) | (with_reducible refine BlkP.Blk.drewN ?_ _) | (with_reducible refine BlkP.Blk.setAt (us := ?_) (by first | omega | (simp; done) | (simp; omega)) rfl ?_ ?_) | (with_reducible refine BlkP.Blk.otherAt ?_ (by first | omega | (simp; done) | (simp; omega))) | (with_reducible refine BlkP.Blk.newA' (by first | omega | (simp; done) | (simp; omega)) rfl) | (with_reducible refine BlkP.Blk.alloc ?_ _) | (exact rfl))), by (repeat' (first | (with_reducible exact hN) | (with_reducible refine BlkP.Blk.drew ?_) | (with_reducible refine BlkP.Blk.drewN ?_ _) | (with_reducible refine BlkP.Blk.setAt (us := ?_) (by first | omega | (simp; done) | (simp; omega)) rfl ?_ ?_) | (with_reducible refine BlkP.Blk.otherAt ?_ (by first | omega | (simp; done) | (simp; omega))) | (with_reducible refine BlkP.Blk.newA' (by first | omega | (simp; done) | (simp; omega)) rfl) | (with_reducible refine BlkP.Blk.alloc ?_ _) | (exact rfl))), by first | exact own_set3 hR hA | exact own_set3 hR.drew hA.drew, by first | exact own_set3 hQ hA | exact own_set3 hQ.drew hA.drew⟩ ?_
            clear hHeld hA hN hR hQ
            rintro v5 ⟨hHeld, hA, hN, hR, hQ⟩
            have hSv5 := hHeld.size
            refine wpAnyH_ready (rs := [7]) (by kernel_rfl) (by simp) ?_
            refine AllReadyH.cons (o := ⟨none, _, _, _, _, _⟩) rfl (fun K hK => ?_) ?_
            · have e0 := hN.cell (i := 0) (v := .slice none 0 0) rfl
              have f0 := hN.frozen 0
              have e1 := hN.cell (i := 1) (v := .int .i64 0) rfl
              have f1 := hN.frozen 1
              have e2 := hN.cell (i := 2) (v := .int .i64 0) rfl
              have f2 := hN.frozen 2
              have lA := hA.lt
              have lN := hN.lt
              go_simp
              refine hK.out _ _ (by (repeat' (first | (with_reducible exact Below.refl _ _) | (with_reducible refine Below.setCell ?_ (by (first | omega | (simp; done) | (simp; omega))) _) | (with_reducible refine Below.alloc ?_ (by (first | omega | (simp; done) | (simp; omega))) _) | (with_reducible refine Below.drew ?_) | (with_reducible refine below_drewN ?_ _) | (with_reducible refine Below.trans ?_ (Below.mono hHeld (by (first | omega | (simp; done) | (simp; omega)))))))) (fun hHeld => ?_)
              clear hK K
              clear e0 e1 e2 f0 f1 f2
              refine any_named (fun W => Below W0.heap.size W0 W ∧ Blk W v1.heap.size TD [.slice AR k cR, .int .i64 0, .int .i64 0] ∧ Blk W v3.heap.size TD [.slice AQ k cQ, .int .i64 0, .int .i64 0] ∧ RowG.Own encX TX W W0.heap.size (.slice AR k cR) l ∧ RowG.Own encX TX W W0.heap.size (.slice AQ k cQ) l) ⟨hHeld, by (repeat' (first | (with_reducible exact hA) | (with_reducible refine BlkP.Blk.drew ?_) | (with_reducible refine BlkP.Blk.drewN ?_ _) | (with_reducible refine BlkP.Blk.setAt (us := ?_) (by first | omega | (simp; done) | (simp; omega)) rfl ?_ ?_) | (with_reducible refine BlkP.Blk.otherAt ?_ (by first | omega | (simp; done) | (simp; omega))) | (with_reducible refine BlkP.Blk.newA' (by first | omega | (simp; done) | (simp; omega)) rfl) | (with_reducible refine BlkP.Blk.alloc ?_ _) | (exact rfl))), by (repeat' (first | (with_reducible exact hN) | (with_reducible refine BlkP.Blk.drew ?_) | (with_reducible refine BlkP.Blk.drewN ?_ _) | (with_reducible refine BlkP.Blk.setAt (us := ?_) (by first | omega | (simp; done) | (simp; omega)) rfl ?_ ?_) | (with_reducible refine BlkP.Blk.otherAt ?_ (by first | omega | (simp; done) | (simp; omega))) | (with_reducible refine BlkP.Blk.newA' (by first | omega | (simp; done) | (simp; omega)) rfl) | (with_reducible refine BlkP.Blk.alloc ?_ _) | (exact rfl))), by first | exact own_set3 hR hN | exact own_set3 hR.drew hN.drew, by first | exact own_set3 hQ hN | exact own_set3 hQ.drew hN.drew⟩ ?_
              clear hHeld hA hN hR hQ
              rintro v6 ⟨hHeld, hA, hN, hR, hQ⟩
              have hSv6 := hHeld.size
              refine wpAnyH_done (by kernel_rfl) ?_ _
              refine NoPanic.normal ?_
              have a0 := hA.cell (i := 0) rfl
              have a1 := hA.cell (i := 1) rfl
              have a2 := hA.cell (i := 2) rfl
              have b0 := hN.cell (i := 0) rfl
              have b1 := hN.cell (i := 1) rfl
              have b2 := hN.cell (i := 2) rfl
              have HBE := Lib.hid (below_t HB0.out hHeld)
              have HRE := Lib.hid hR.rd
              have HQE := Lib.hid hQ.rd
              clear hA hN hR hQ hHeld
              go_wp2_with fail
              refine (same_c HRE.out HQE.out HK.out HK4.out).mono ?_
              rintro e x1 ⟨rfl, hbx⟩
              have HX1 := Lib.hid (below_t HBE.out hbx)
              clear hbx a0 a1 a2 b0 b1 b2
              go_wp2_with fail
              refine (works_c (HT.out.below HX1.out)).mono ?_
              rintro e x2 ⟨rfl, hbx⟩
              have HX2 := Lib.hid (below_t HX1.out hbx)
              clear hbx
              go_wp2_with fail
              go_ret
              exact ⟨rfl, HX2.out⟩
            exact AllReadyH.nil
          exact AllReadyH.nil
        exact AllReadyH.nil
      refine AllReadyH.cons (o := ⟨some 13, _, _, _, _, _⟩) rfl (fun K hK => ?_) ?_
      · go_simp
        refine hK.out _ _ (hHeld.alloc hHeld.size _) (fun hHeld => ?_)
        clear hK K
        have lA := hA.lt
        refine any_named (fun W => Below W0.heap.size W0 W ∧ Blk W v1.heap.size TD [.slice none 0 0, .int .i64 0, .int .i64 0] ∧ Blk W v2.heap.size TD [.slice none 0 0, .int .i64 0, .int .i64 0] ∧ RowG.Own encX TX W W0.heap.size (.slice AR k cR) l) ⟨hHeld, by (repeat' (first | (with_reducible exact hA) | (with_reducible refine BlkP.Blk.drew ?_) | (with_reducible refine BlkP.Blk.drewN ?_ _) | (with_reducible refine BlkP.Blk.setAt (us := ?_) (by first | omega | (simp; done) | (simp; omega)) rfl ?_ ?_) | (with_reducible refine BlkP.Blk.otherAt ?_ (by first | omega | (simp; done) | (simp; omega))) | (with_reducible refine BlkP.Blk.newA' (by first | omega | (simp; done) | (simp; omega)) rfl) | (with_reducible refine BlkP.Blk.alloc ?_ _) | (exact rfl))), by (repeat' (first | (with_reducible refine BlkP.Blk.drew ?_) | (with_reducible refine BlkP.Blk.drewN ?_ _) | (with_reducible refine BlkP.Blk.setAt (us := ?_) (by first | omega | (simp; done) | (simp; omega)) rfl ?_ ?_) | (with_reducible refine BlkP.Blk.otherAt ?_ (by first | omega | (simp; done) | (simp; omega))) | (with_reducible refine BlkP.Blk.newA' (by first | omega | (simp; done) | (simp; omega)) rfl) | (with_reducible refine BlkP.Blk.alloc ?_ _) | (exact rfl))), hR.below (by (repeat' (first | (with_reducible exact Below.refl _ _) | (with_reducible refine Below.setCell ?_ (by (first | omega | (simp; done) | (simp; omega))) _) | (with_reducible refine Below.alloc ?_ (by (first | omega | (simp; done) | (simp; omega))) _) | (with_reducible refine Below.drew ?_) | (with_reducible refine below_drewN ?_ _))))⟩ ?_
        clear hHeld hA hR
        rintro v3 ⟨hHeld, hA, hN, hR⟩
        have hSv3 := hHeld.size
        refine wpAnyH_ready (rs := [3]) (by kernel_rfl) (by simp) ?_
        refine AllReadyH.cons (o := ⟨some 32, _, _, _, _, _⟩) rfl (fun K hK => ?_) ?_
        · have hHeld0 := hHeld.size
          go_simp
          refine (Next_c (n := m) (HT.out.below (below_t HB0.out hHeld))).mono ?_
          rintro e wf ⟨vf, rfl, hof, hbf⟩
          rw [HDM.out, HL.out] at hof
          obtain ⟨AQ, cQ, rfl, _, _, _⟩ := hof.form HK.out
          go_wp2_with fail
          refine hK.out _ _ (below_t hHeld hbf) (fun hHeld => ?_)
          clear hK K
          refine any_named (fun W => Below W0.heap.size W0 W ∧ Blk W v1.heap.size TD [.slice none 0 0, .int .i64 0, .int .i64 0] ∧ Blk W v2.heap.size TD [.slice none 0 0, .int .i64 0, .int .i64 0] ∧ RowG.Own encX TX W W0.heap.size (.slice AR k cR) l ∧ RowG.Own encX TX W W0.heap.size (.slice AQ k cQ) l) ⟨hHeld, hA.below hbf, hN.below hbf, hR.below hbf, hof.mono (show W0.heap.size ≤ _ from hHeld0)⟩ ?_
          clear hHeld hA hN hR
          rintro v4 ⟨hHeld, hA, hN, hR, hQ⟩
          have hSv4 := hHeld.size
          clear hof hbf
          refine wpAnyH_ready (rs := [6]) (by kernel_rfl) (by simp) ?_
          refine AllReadyH.cons (o := ⟨none, _, _, _, _, _⟩) rfl (fun K hK => ?_) ?_
          · have e0 := hA.cell (i := 0) (v := .slice none 0 0) rfl
            have f0 := hA.frozen 0
            have e1 := hA.cell (i := 1) (v := .int .i64 0) rfl
            have f1 := hA.frozen 1
            have e2 := hA.cell (i := 2) (v := .int .i64 0) rfl
            have f2 := hA.frozen 2
            have lA := hA.lt
            have lN := hN.lt
            go_simp
            refine hK.out _ _ (by (repeat' (first | (with_reducible exact Below.refl _ _) | (with_reducible refine Below.setCell ?_ (by (first | omega | (simp; done) | (simp; omega))) _) | (with_reducible refine Below.alloc ?_ (by (first | omega | (simp; done) | (simp; omega))) _) | (with_reducible refine Below.drew ?_) | (with_reducible refine below_drewN ?_ _) | (with_reducible refine Below.trans ?_ (Below.mono hHeld (by (first | omega | (simp; done) | (simp; omega)))))))) (fun hHeld => ?_)
            clear hK K
            clear e0 e1 e2 f0 f1 f2
            refine any_named (fun W => Below W0.heap.size W0 W ∧ Blk W v1.heap.size TD [.slice AR k cR, .int .i64 0, .int .i64 0] ∧ Blk W v2.heap.size TD [.slice none 0 0, .int .i64 0, .int .i64 0] ∧ RowG.Own encX TX W W0.heap.size (.slice AR k cR) l ∧ RowG.Own encX TX W W0.heap.size (.slice AQ k cQ) l) ⟨hHeld, by (repeat' (first | (with_reducible exact hA) | (with_reducible refine BlkP.Blk.drew ?_) | (with_reducible refine BlkP.Blk.drewN ?_ _) | (with_reducible refine BlkP.Blk.setAt (us := ?_) (by first | omega | (simp; done) | (simp; omega)) rfl ?_ ?_) | (with_reducible refine BlkP.Blk.otherAt ?_ (by first | omega | (simp; done) | (simp; omega))) | (with_reducible refine BlkP.Blk.newA' (by first | omega | (simp; done) | (simp; omega)) rfl) | (with_reducible refine BlkP.Blk.alloc ?_ _) | (exact rfl))), by (repeat' (first | (with_reducible exact hN) | (with_reducible refine BlkP.Blk.drew ?_) | (with_reducible refine BlkP.Blk.drewN ?_ _) | (with_reducible refine BlkP.Blk.setAt (us := ?_) (by first | omega | (simp; done) | (simp; omega)) rfl ?_ ?_) | (with_reducible refine BlkP.Blk.otherAt ?_ (by first | omega | (simp; done) | (simp; omega))) | (with_reducible refine BlkP.Blk.newA' (by first | omega | (simp; done) | (simp; omega)) rfl) | (with_reducible refine BlkP.Blk.alloc ?_ _) | (exact rfl))), by first | exact own_set3 hR hA | exact own_set3 hR.drew hA.drew, by first | exact own_set3 hQ hA | exact own_set3 hQ.drew hA.drew⟩ ?_
            clear hHeld hA hN hR hQ
            rintro v5 ⟨hHeld, hA, hN, hR, hQ⟩
            have hSv5 := hHeld.size
            refine wpAnyH_ready (rs := [7]) (by kernel_rfl) (by simp) ?_
            refine AllReadyH.cons (o := ⟨none, _, _, _, _, _⟩) rfl (fun K hK => ?_) ?_
            · have e0 := hN.cell (i := 0) (v := .slice none 0 0) rfl
              have f0 := hN.frozen 0
              have e1 := hN.cell (i := 1) (v := .int .i64 0) rfl
              have f1 := hN.frozen 1
              have e2 := hN.cell (i := 2) (v := .int .i64 0) rfl
              have f2 := hN.frozen 2
              have lA := hA.lt
              have lN := hN.lt
              go_simp
              refine hK.out _ _ (by (repeat' (first | (with_reducible exact Below.refl _ _) | (with_reducible refine Below.setCell ?_ (by (first | omega | (simp; done) | (simp; omega))) _) | (with_reducible refine Below.alloc ?_ (by (first | omega | (simp; done) | (simp; omega))) _) | (with_reducible refine Below.drew ?_) | (with_reducible refine below_drewN ?_ _) | (with_reducible refine Below.trans ?_ (Below.mono hHeld (by (first | omega | (simp; done) | (simp; omega)))))))) (fun hHeld => ?_)
              clear hK K
              clear e0 e1 e2 f0 f1 f2
              refine any_named (fun W => Below W0.heap.size W0 W ∧ Blk W v1.heap.size TD [.slice AR k cR, .int .i64 0, .int .i64 0] ∧ Blk W v2.heap.size TD [.slice AQ k cQ, .int .i64 0, .int .i64 0] ∧ RowG.Own encX TX W W0.heap.size (.slice AR k cR) l ∧ RowG.Own encX TX W W0.heap.size (.slice AQ k cQ) l) ⟨hHeld, by (repeat' (first | (with_reducible exact hA) | (with_reducible refine BlkP.Blk.drew ?_) | (with_reducible refine BlkP.Blk.drewN ?_ _) | (with_reducible refine BlkP.Blk.setAt (us := ?_) (by first | omega | (simp; done) | (simp; omega)) rfl ?_ ?_) | (with_reducible refine BlkP.Blk.otherAt ?_ (by first | omega | (simp; done) | (simp; omega))) | (with_reducible refine BlkP.Blk.newA' (by first | omega | (simp; done) | (simp; omega)) rfl) | (with_reducible refine BlkP.Blk.alloc ?_ _) | (exact rfl))), by (repeat' (first | (with_reducible exact hN) | (with_reducible refine BlkP.Blk.drew ?_) | (with_reducible refine BlkP.Blk.drewN ?_ _) | (with_reducible refine BlkP.Blk.setAt (us := ?_) (by first | omega | (simp; done) | (simp; omega)) rfl ?_ ?_) | (with_reducible refine BlkP.Blk.otherAt ?_ (by first | omega | (simp; done) | (simp; omega))) | (with_reducible refine BlkP.Blk.newA' (by first | omega | (simp; done) | (simp; omega)) rfl) | (with_reducible refine BlkP.Blk.alloc ?_ _) | (exact rfl))), by first | exact own_set3 hR hN | exact own_set3 hR.drew hN.drew, by first | exact own_set3 hQ hN | exact own_set3 hQ.drew hN.drew⟩ ?_
              clear hHeld hA hN hR hQ
              rintro v6 ⟨hHeld, hA, hN, hR, hQ⟩
              have hSv6 := hHeld.size
              refine wpAnyH_done (by kernel_rfl) ?_ _
              refine NoPanic.normal ?_
              have a0 := hA.cell (i := 0) rfl
              have a1 := hA.cell (i := 1) rfl
              have a2 := hA.cell (i := 2) rfl
              have b0 := hN.cell (i := 0) rfl
              have b1 := hN.cell (i := 1) rfl
              have b2 := hN.cell (i := 2) rfl
              have HBE := Lib.hid (below_t HB0.out hHeld)
              have HRE := Lib.hid hR.rd
              have HQE := Lib.hid hQ.rd
              clear hA hN hR hQ hHeld
              go_wp2_with fail
              refine (same_c HRE.out HQE.out HK.out HK4.out).mono ?_
              rintro e x1 ⟨rfl, hbx⟩
              have HX1 := Lib.hid (below_t HBE.out hbx)
              clear hbx a0 a1 a2 b0 b1 b2
              go_wp2_with fail
              refine (works_c (HT.out.below HX1.out)).mono ?_
              rintro e x2 ⟨rfl, hbx⟩
              have HX2 := Lib.hid (below_t HX1.out hbx)
              clear hbx
              go_wp2_with fail
              go_ret
              exact ⟨rfl, HX2.out⟩
            exact AllReadyH.nil
          exact AllReadyH.nil
        exact AllReadyH.nil
      exact AllReadyH.nil
    refine AllReadyH.cons (o := ⟨some 13, _, _, _, _, _⟩) rfl (fun K hK => ?_) ?_
    · go_simp
      refine hK.out _ _ (hHeld.alloc hHeld.size _) (fun hHeld => ?_)
      clear hK K
      refine any_named (fun W => Below W0.heap.size W0 W ∧ Blk W v1.heap.size TD [.slice none 0 0, .int .i64 0, .int .i64 0] ∧ RowG.Own encX TX W W0.heap.size (.slice AR k cR) l) ⟨hHeld, by (repeat' (first | (with_reducible refine BlkP.Blk.drew ?_) | (with_reducible refine BlkP.Blk.drewN ?_ _) | (with_reducible refine BlkP.Blk.setAt (us := ?_) (by first | omega | (simp; done) | (simp; omega)) rfl ?_ ?_) | (with_reducible refine BlkP.Blk.otherAt ?_ (by first | omega | (simp; done) | (simp; omega))) | (with_reducible refine BlkP.Blk.newA' (by first | omega | (simp; done) | (simp; omega)) rfl) | (with_reducible refine BlkP.Blk.alloc ?_ _) | (exact rfl))), hR.below (by (repeat' (first | (with_reducible exact Below.refl _ _) | (with_reducible refine Below.setCell ?_ (by (first | omega | (simp; done) | (simp; omega))) _) | (with_reducible refine Below.alloc ?_ (by (first | omega | (simp; done) | (simp; omega))) _) | (with_reducible refine Below.drew ?_) | (with_reducible refine below_drewN ?_ _))))⟩ ?_
      clear hHeld hR
      rintro v2 ⟨hHeld, hN, hR⟩
      have hSv2 := hHeld.size
      refine wpAnyH_ready (rs := [3, 4]) (by kernel_rfl) (by simp) ?_
      refine AllReadyH.cons (o := ⟨some 32, _, _, _, _, _⟩) rfl (fun K hK => ?_) ?_
      · have hHeld0 := hHeld.size
        go_simp
        refine (Next_c (n := m) (HT.out.below (below_t HB0.out hHeld))).mono ?_
        rintro e wf ⟨vf, rfl, hof, hbf⟩
        rw [HDM.out, HL.out] at hof
        obtain ⟨AQ, cQ, rfl, _, _, _⟩ := hof.form HK.out
        go_wp2_with fail
        refine hK.out _ _ (below_t hHeld hbf) (fun hHeld => ?_)
        clear hK K
        refine any_named (fun W => Below W0.heap.size W0 W ∧ Blk W v1.heap.size TD [.slice none 0 0, .int .i64 0, .int .i64 0] ∧ RowG.Own encX TX W W0.heap.size (.slice AR k cR) l ∧ RowG.Own encX TX W W0.heap.size (.slice AQ k cQ) l) ⟨hHeld, hN.below hbf, hR.below hbf, hof.mono (show W0.heap.size ≤ _ from hHeld0)⟩ ?_
        clear hHeld hN hR
        rintro v3 ⟨hHeld, hN, hR, hQ⟩
        have hSv3 := hHeld.size
        clear hof hbf
        refine wpAnyH_ready (rs := [4]) (by kernel_rfl) (by simp) ?_
        refine AllReadyH.cons (o := ⟨some 12, _, _, _, _, _⟩) rfl (fun K hK => ?_) ?_
        · go_simp
          refine hK.out _ _ (hHeld.alloc hHeld.size _) (fun hHeld => ?_)
          clear hK K
          have lN := hN.lt
          refine any_named (fun W => Below W0.heap.size W0 W ∧ Blk W v3.heap.size TD [.slice none 0 0, .int .i64 0, .int .i64 0] ∧ Blk W v1.heap.size TD [.slice none 0 0, .int .i64 0, .int .i64 0] ∧ RowG.Own encX TX W W0.heap.size (.slice AR k cR) l ∧ RowG.Own encX TX W W0.heap.size (.slice AQ k cQ) l) ⟨hHeld, by (repeat' (first | (with_reducible refine BlkP.Blk.drew ?_) | (with_reducible refine BlkP.Blk.drewN ?_ _) | (with_reducible refine BlkP.Blk.setAt (us := ?_) (by first | omega | (simp; done) | (simp; omega)) rfl ?_ ?_) | (with_reducible refine BlkP.Blk.otherAt ?_ (by first | omega | (simp; done) | (simp; omega))) | (with_reducible refine BlkP.Blk.newA' (by first | omega | (simp; done) | (simp; omega)) rfl) | (with_reducible refine BlkP.Blk.alloc ?_ _) | (exact rfl))), by (repeat' (first | (with_reducible exact hN) | (with_reducible refine BlkP.Blk.drew ?_) | (with_reducible refine BlkP.Blk.drewN ?_ _) | (with_reducible refine BlkP.Blk.setAt (us := ?_) (by first | omega | (simp; done) | (simp; omega)) rfl ?_ ?_) | (with_reducible refine BlkP.Blk.otherAt ?_ (by first | omega | (simp; done) | (simp; omega))) | (with_reducible refine BlkP.Blk.newA' (by first | omega | (simp; done) | (simp; omega)) rfl) | (with_reducible refine BlkP.Blk.alloc ?_ _) | (exact rfl))), hR.below (by (repeat' (first | (with_reducible exact Below.refl _ _) | (with_reducible refine Below.setCell ?_ (by (first | omega | (simp; done) | (simp; omega))) _) | (with_reducible refine Below.alloc ?_ (by (first | omega | (simp; done) | (simp; omega))) _) | (with_reducible refine Below.drew ?_) | (with_reducible refine below_drewN ?_ _)))), hQ.below (by (repeat' (first | (with_reducible exact Below.refl _ _) | (with_reducible refine Below.setCell ?_ (by (first | omega | (simp; done) | (simp; omega))) _) | (with_reducible refine Below.alloc ?_ (by (first | omega | (simp; done) | (simp; omega))) _) | (with_reducible refine Below.drew ?_) | (with_reducible refine below_drewN ?_ _))))⟩ ?_
          clear hHeld hN hR hQ
          rintro v4 ⟨hHeld, hA, hN, hR, hQ⟩
          have hSv4 := hHeld.size
          refine wpAnyH_ready (rs := [6]) (by kernel_rfl) (by simp) ?_
          refine AllReadyH.cons (o := ⟨none, _, _, _, _, _⟩) rfl (fun K hK => ?_) ?_
          · have e0 := hA.cell (i := 0) (v := .slice none 0 0) rfl
            have f0 := hA.frozen 0
            have e1 := hA.cell (i := 1) (v := .int .i64 0) rfl
            have f1 := hA.frozen 1
            have e2 := hA.cell (i := 2) (v := .int .i64 0) rfl
            have f2 := hA.frozen 2
            have lA := hA.lt
            have lN := hN.lt
            go_simp
            refine hK.out _ _ (by (repeat' (first | (with_reducible exact Below.refl _ _) | (with_reducible refine Below.setCell ?_ (by (first | omega | (simp; done) | (simp; omega))) _) | (with_reducible refine Below.alloc ?_ (by (first | omega | (simp; done) | (simp; omega))) _) | (with_reducible refine Below.drew ?_) | (with_reducible refine below_drewN ?_ _) | (with_reducible refine Below.trans ?_ (Below.mono hHeld (by (first | omega | (simp; done) | (simp; omega)))))))) (fun hHeld => ?_)
            clear hK K
            clear e0 e1 e2 f0 f1 f2
            refine any_named (fun W => Below W0.heap.size W0 W ∧ Blk W v3.heap.size TD [.slice AR k cR, .int .i64 0, .int .i64 0] ∧ Blk W v1.heap.size TD [.slice none 0 0, .int .i64 0, .int .i64 0] ∧ RowG.Own encX TX W W0.heap.size (.slice AR k cR) l ∧ RowG.Own encX TX W W0.heap.size (.slice AQ k cQ) l) ⟨hHeld, by (repeat' (first | (with_reducible exact hA) | (with_reducible refine BlkP.Blk.drew ?_) | (with_reducible refine BlkP.Blk.drewN ?_ _) | (with_reducible refine BlkP.Blk.setAt (us := ?_) (by first | omega | (simp; done) | (simp; omega)) rfl ?_ ?_) | (with_reducible refine BlkP.Blk.otherAt ?_ (by first | omega | (simp; done) | (simp; omega))) | (with_reducible refine BlkP.Blk.newA' (by first | omega | (simp; done) | (simp; omega)) rfl) | (with_reducible refine BlkP.Blk.alloc ?_ _) | (exact rfl))), by (repeat' (first | (with_reducible exact hN) | (with_reducible refine BlkP.Blk.drew ?_) | (with_reducible refine BlkP.Blk.drewN ?_ _) | (with_reducible refine BlkP.Blk.setAt (us := ?_) (by first | omega | (simp; done) | (simp; omega)) rfl ?_ ?_) | (with_reducible refine BlkP.Blk.otherAt ?_ (by first | omega | (simp; done) | (simp; omega))) | (with_reducible refine BlkP.Blk.newA' (by first | omega | (simp; done) | (simp; omega)) rfl) | (with_reducible refine BlkP.Blk.alloc ?_ _) | (exact rfl))), by first | exact own_set3 hR hA | exact own_set3 hR.drew hA.drew, by first | exact own_set3 hQ hA | exact own_set3 hQ.drew hA.drew⟩ ?_
            clear hHeld hA hN hR hQ
            rintro v5 ⟨hHeld, hA, hN, hR, hQ⟩
            have hSv5 := hHeld.size
            refine wpAnyH_ready (rs := [7]) (by kernel_rfl) (by simp) ?_
            refine AllReadyH.cons (o := ⟨none, _, _, _, _, _⟩) rfl (fun K hK => ?_) ?_
            · have e0 := hN.cell (i := 0) (v := .slice none 0 0) rfl
              have f0 := hN.frozen 0
              have e1 := hN.cell (i := 1) (v := .int .i64 0) rfl
              have f1 := hN.frozen 1
              have e2 := hN.cell (i := 2) (v := .int .i64 0) rfl
              have f2 := hN.frozen 2
              have lA := hA.lt
              have lN := hN.lt
              go_simp
              refine hK.out _ _ (by (repeat' (first | (with_reducible exact Below.refl _ _) | (with_reducible refine Below.setCell ?_ (by (first | omega | (simp; done) | (simp; omega))) _) | (with_reducible refine Below.alloc ?_ (by (first | omega | (simp; done) | (simp; omega))) _) | (with_reducible refine Below.drew ?_) | (with_reducible refine below_drewN ?_ _) | (with_reducible refine Below.trans ?_ (Below.mono hHeld (by (first | omega | (simp; done) | (simp; omega)))))))) (fun hHeld => ?_)
              clear hK K
              clear e0 e1 e2 f0 f1 f2
              refine any_named (fun W => Below W0.heap.size W0 W ∧ Blk W v3.heap.size TD [.slice AR k cR, .int .i64 0, .int .i64 0] ∧ Blk W v1.heap.size TD [.slice AQ k cQ, .int .i64 0, .int .i64 0] ∧ RowG.Own encX TX W W0.heap.size (.slice AR k cR) l ∧ RowG.Own encX TX W W0.heap.size (.slice AQ k cQ) l) ⟨hHeld, by (repeat' (first | (with_reducible exact hA) | (with_reducible refine BlkP.Blk.drew ?_) | (with_reducible refine BlkP.Blk.drewN ?_ _) | (with_reducible refine BlkP.Blk.setAt (us := ?_) (by first | omega | (simp; done) | (simp; omega)) rfl ?_ ?_) | (with_reducible refine BlkP.Blk.otherAt ?_ (by first | omega | (simp; done) | (simp; omega))) | (with_reducible refine BlkP.Blk.newA' (by first | omega | (simp; done) | (simp; omega)) rfl) | (with_reducible refine BlkP.Blk.alloc ?_ _) | (exact rfl))), by (repeat' (first | (with_reducible exact hN) | (with_reducible refine BlkP.Blk.drew ?_) | (with_reducible refine BlkP.Blk.drewN ?_ _) | (with_reducible refine BlkP.Blk.setAt (us := ?_) (by first | omega | (simp; done) | (simp; omega)) rfl ?_ ?_) | (with_reducible refine BlkP.Blk.otherAt ?_ (by first | omega | (simp; done) | (simp; omega))) | (with_reducible refine BlkP.Blk.newA' (by first | omega | (simp; done) | (simp; omega)) rfl) | (with_reducible refine BlkP.Blk.alloc ?_ _) | (exact rfl))), by first | exact own_set3 hR hN | exact own_set3 hR.drew hN.drew, by first | exact own_set3 hQ hN | exact own_set3 hQ.drew hN.drew⟩ ?_
              clear hHeld hA hN hR hQ
              rintro v6 ⟨hHeld, hA, hN, hR, hQ⟩
              have hSv6 := hHeld.size
              refine wpAnyH_done (by kernel_rfl) ?_ _
              refine NoPanic.normal ?_
              have a0 := hA.cell (i := 0) rfl
              have a1 := hA.cell (i := 1) rfl
              have a2 := hA.cell (i := 2) rfl
              have b0 := hN.cell (i := 0) rfl
              have b1 := hN.cell (i := 1) rfl
              have b2 := hN.cell (i := 2) rfl
              have HBE := Lib.hid (below_t HB0.out hHeld)
              have HRE := Lib.hid hR.rd
              have HQE := Lib.hid hQ.rd
              clear hA hN hR hQ hHeld
              go_wp2_with fail
              refine (same_c HRE.out HQE.out HK.out HK4.out).mono ?_
              rintro e x1 ⟨rfl, hbx⟩
              have HX1 := Lib.hid (below_t HBE.out hbx)
              clear hbx a0 a1 a2 b0 b1 b2
              go_wp2_with fail
              refine (works_c (HT.out.below HX1.out)).mono ?_
              rintro e x2 ⟨rfl, hbx⟩
              have HX2 := Lib.hid (below_t HX1.out hbx)
              clear hbx
              go_wp2_with fail
              go_ret
              exact ⟨rfl, HX2.out⟩
            exact AllReadyH.nil
          exact AllReadyH.nil
        exact AllReadyH.nil
      refine AllReadyH.cons (o := ⟨some 12, _, _, _, _, _⟩) rfl (fun K hK => ?_) ?_
      · go_simp
        refine hK.out _ _ (hHeld.alloc hHeld.size _) (fun hHeld => ?_)
        clear hK K
        have lN := hN.lt
        refine any_named (fun W => Below W0.heap.size W0 W ∧ Blk W v2.heap.size TD [.slice none 0 0, .int .i64 0, .int .i64 0] ∧ Blk W v1.heap.size TD [.slice none 0 0, .int .i64 0, .int .i64 0] ∧ RowG.Own encX TX W W0.heap.size (.slice AR k cR) l) ⟨hHeld, by (repeat' (first | (with_reducible refine BlkP.Blk.drew ?_) | (with_reducible refine BlkP.Blk.drewN ?_ _) | (with_reducible refine BlkP.Blk.setAt (us := ?_) (by first | omega | (simp; done) | (simp; omega)) rfl ?_ ?_) | (with_reducible refine BlkP.Blk.otherAt ?_ (by first | omega | (simp; done) | (simp; omega))) | (with_reducible refine BlkP.Blk.newA' (by first | omega | (simp; done) | (simp; omega)) rfl) | (with_reducible refine BlkP.Blk.alloc ?_ _) | (exact rfl))), by (repeat' (first | (with_reducible exact hN) | (with_reducible refine BlkP.Blk.drew ?_) | (with_reducible refine BlkP.Blk.drewN ?_ _) | (with_reducible refine BlkP.Blk.setAt (us := ?_) (by first | omega | (simp; done) | (simp; omega)) rfl ?_ ?_) | (with_reducible refine BlkP.Blk.otherAt ?_ (by first | omega | (simp; done) | (simp; omega))) | (with_reducible refine BlkP.Blk.newA' (by first | omega | (simp; done) | (simp; omega)) rfl) | (with_reducible refine BlkP.Blk.alloc ?_ _) | (exact rfl))), hR.below (by (repeat' (first | (with_reducible exact Below.refl _ _) | (with_reducible refine Below.setCell ?_ (by (first | omega | (simp; done) | (simp; omega))) _) | (with_reducible refine Below.alloc ?_ (by (first | omega | (simp; done) | (simp; omega))) _) | (with_reducible refine Below.drew ?_) | (with_reducible refine below_drewN ?_ _))))⟩ ?_
        clear hHeld hN hR
        rintro v3 ⟨hHeld, hA, hN, hR⟩
        have hSv3 := hHeld.size
        refine wpAnyH_ready (rs := [3]) (by kernel_rfl) (by simp) ?_
        refine AllReadyH.cons (o := ⟨some 32, _, _, _, _, _⟩) rfl (fun K hK => ?_) ?_
        · have hHeld0 := hHeld.size
          go_simp
          refine (Next_c (n := m) (HT.out.below (below_t HB0.out hHeld))).mono ?_
          rintro e wf ⟨vf, rfl, hof, hbf⟩
          rw [HDM.out, HL.out] at hof
          obtain ⟨AQ, cQ, rfl, _, _, _⟩ := hof.form HK.out
          go_wp2_with fail
          refine hK.out _ _ (below_t hHeld hbf) (fun hHeld => ?_)
          clear hK K
          refine any_named (fun W => Below W0.heap.size W0 W ∧ Blk W v2.heap.size TD [.slice none 0 0, .int .i64 0, .int .i64 0] ∧ Blk W v1.heap.size TD [.slice none 0 0, .int .i64 0, .int .i64 0] ∧ RowG.Own encX TX W W0.heap.size (.slice AR k cR) l ∧ RowG.Own encX TX W W0.heap.size (.slice AQ k cQ) l) ⟨hHeld, hA.below hbf, hN.below hbf, hR.below hbf, hof.mono (show W0.heap.size ≤ _ from hHeld0)⟩ ?_
          clear hHeld hA hN hR
          rintro v4 ⟨hHeld, hA, hN, hR, hQ⟩
          have hSv4 := hHeld.size
          clear hof hbf
          refine wpAnyH_ready (rs := [6]) (by kernel_rfl) (by simp) ?_
          refine AllReadyH.cons (o := ⟨none, _, _, _, _, _⟩) rfl (fun K hK => ?_) ?_
          · have e0 := hA.cell (i := 0) (v := .slice none 0 0) rfl
            have f0 := hA.frozen 0
            have e1 := hA.cell (i := 1) (v := .int .i64 0) rfl
            have f1 := hA.frozen 1
            have e2 := hA.cell (i := 2) (v := .int .i64 0) rfl
            have f2 := hA.frozen 2
            have lA := hA.lt
            have lN := hN.lt
            go_simp
            refine hK.out _ _ (by (repeat' (first | (with_reducible exact Below.refl _ _) | (with_reducible refine Below.setCell ?_ (by (first | omega | (simp; done) | (simp; omega))) _) | (with_reducible refine Below.alloc ?_ (by (first | omega | (simp; done) | (simp; omega))) _) | (with_reducible refine Below.drew ?_) | (with_reducible refine below_drewN ?_ _) | (with_reducible refine Below.trans ?_ (Below.mono hHeld (by (first | omega | (simp; done) | (simp; omega)))))))) (fun hHeld => ?_)
            clear hK K
            clear e0 e1 e2 f0 f1 f2
            refine any_named (fun W => Below W0.heap.size W0 W ∧ Blk W v2.heap.size TD [.slice AR k cR, .int .i64 0, .int .i64 0] ∧ Blk W v1.heap.size TD [.slice none 0 0, .int .i64 0, .int .i64 0] ∧ RowG.Own encX TX W W0.heap.size (.slice AR k cR) l ∧ RowG.Own encX TX W W0.heap.size (.slice AQ k cQ) l) ⟨hHeld, by (repeat' (first | (with_reducible exact hA) | (with_reducible refine BlkP.Blk.drew ?_) | (with_reducible refine BlkP.Blk.drewN ?_ _) | (with_reducible refine BlkP.Blk.setAt (us := ?_) (by first | omega | (simp; done) | (simp; omega)) rfl ?_ ?_) | (with_reducible refine BlkP.Blk.otherAt ?_ (by first | omega | (simp; done) | (simp; omega))) | (with_reducible refine BlkP.Blk.newA' (by first | omega | (simp; done) | (simp; omega)) rfl) | (with_reducible refine BlkP.Blk.alloc ?_ _) | (exact rfl))), by (repeat' (first | (with_reducible exact hN) | (with_reducible refine BlkP.Blk.drew ?_) | (with_reducible refine BlkP.Blk.drewN ?_ _) | (with_reducible refine BlkP.Blk.setAt (us := ?_) (by first | omega | (simp; done) | (simp; omega)) rfl ?_ ?_) | (with_reducible refine BlkP.Blk.otherAt ?_ (by first | omega | (simp; done) | (simp; omega))) | (with_reducible refine BlkP.Blk.newA' (by first | omega | (simp; done) | (simp; omega)) rfl) | (with_reducible refine BlkP.Blk.alloc ?_ _) | (exact rfl))), by first | exact own_set3 hR hA | exact own_set3 hR.drew hA.drew, by first | exact own_set3 hQ hA | exact own_set3 hQ.drew hA.drew⟩ ?_
            clear hHeld hA hN hR hQ
            rintro v5 ⟨hHeld, hA, hN, hR, hQ⟩
            have hSv5 := hHeld.size
            refine wpAnyH_ready (rs := [7]) (by kernel_rfl) (by simp) ?_
            refine AllReadyH.cons (o := ⟨none, _, _, _, _, _⟩) rfl (fun K hK => ?_) ?_
            · have e0 := hN.cell (i := 0) (v := .slice none 0 0) rfl
              have f0 := hN.frozen 0
              have e1 := hN.cell (i := 1) (v := .int .i64 0) rfl
              have f1 := hN.frozen 1
              have e2 := hN.cell (i := 2) (v := .int .i64 0) rfl
              have f2 := hN.frozen 2
              have lA := hA.lt
              have lN := hN.lt
              go_simp
              refine hK.out _ _ (by (repeat' (first | (with_reducible exact Below.refl _ _) | (with_reducible refine Below.setCell ?_ (by (first | omega | (simp; done) | (simp; omega))) _) | (with_reducible refine Below.alloc ?_ (by (first | omega | (simp; done) | (simp; omega))) _) | (with_reducible refine Below.drew ?_) | (with_reducible refine below_drewN ?_ _) | (with_reducible refine Below.trans ?_ (Below.mono hHeld (by (first | omega | (simp; done) | (simp; omega)))))))) (fun hHeld => ?_)
              clear hK K
              clear e0 e1 e2 f0 f1 f2
              refine any_named (fun W => Below W0.heap.size W0 W ∧ Blk W v2.heap.size TD [.slice AR k cR, .int .i64 0, .int .i64 0] ∧ Blk W v1.heap.size TD [.slice AQ k cQ, .int .i64 0, .int .i64 0] ∧ RowG.Own encX TX W W0.heap.size (.slice AR k cR) l ∧ RowG.Own encX TX W W0.heap.size (.slice AQ k cQ) l) ⟨hHeld, by (repeat' (first | (with_reducible exact hA) | (with_reducible refine BlkP.Blk.drew ?_) | (with_reducible refine BlkP.Blk.drewN ?_ _) | (with_reducible refine BlkP.Blk.setAt (us := ?_) (by first | omega | (simp; done) | (simp; omega)) rfl ?_ ?_) | (with_reducible refine BlkP.Blk.otherAt ?_ (by first | omega | (simp; done) | (simp; omega))) | (with_reducible refine BlkP.Blk.newA' (by first | omega | (simp; done) | (simp; omega)) rfl) | (with_reducible refine BlkP.Blk.alloc ?_ _) | (exact rfl))), by (repeat' (first | (with_reducible exact hN) | (with_reducible refine BlkP.Blk.drew ?_) | (with_reducible refine BlkP.Blk.drewN ?_ _) | (with_reducible refine BlkP.Blk.setAt (us := ?_) (by first | omega | (simp; done) | (simp; omega)) rfl ?_ ?_) | (with_reducible refine BlkP.Blk.otherAt ?_ (by first | omega | (simp; done) | (simp; omega))) | (with_reducible refine BlkP.Blk.newA' (by first | omega | (simp; done) | (simp; omega)) rfl) | (with_reducible refine BlkP.Blk.alloc ?_ _) | (exact rfl))), by first | exact own_set3 hR hN | exact own_set3 hR.drew hN.drew, by first | exact own_set3 hQ hN | exact own_set3 hQ.drew hN.drew⟩ ?_
              clear hHeld hA hN hR hQ
              rintro v6 ⟨hHeld, hA, hN, hR, hQ⟩
              have hSv6 := hHeld.size
              refine wpAnyH_done (by kernel_rfl) ?_ _
              refine NoPanic.normal ?_
              have a0 := hA.cell (i := 0) rfl
              have a1 := hA.cell (i := 1) rfl
              have a2 := hA.cell (i := 2) rfl
              have b0 := hN.cell (i := 0) rfl
              have b1 := hN.cell (i := 1) rfl
              have b2 := hN.cell (i := 2) rfl
              have HBE := Lib.hid (below_t HB0.out hHeld)
              have HRE := Lib.hid hR.rd
              have HQE := Lib.hid hQ.rd
              clear hA hN hR hQ hHeld
              go_wp2_with fail
              refine (same_c HRE.out HQE.out HK.out HK4.out).mono ?_
              rintro e x1 ⟨rfl, hbx⟩
              have HX1 := Lib.hid (below_t HBE.out hbx)
              clear hbx a0 a1 a2 b0 b1 b2
              go_wp2_with fail
              refine (works_c (HT.out.below HX1.out)).mono ?_
              rintro e x2 ⟨rfl, hbx⟩
              have HX2 := Lib.hid (below_t HX1.out hbx)
              clear hbx
              go_wp2_with fail
              go_ret
              exact ⟨rfl, HX2.out⟩
            exact AllReadyH.nil
          exact AllReadyH.nil
        exact AllReadyH.nil
      exact AllReadyH.nil
    exact AllReadyH.nil
  refine AllReadyH.cons (o := ⟨some 12, _, _, _, _, _⟩) rfl (fun K hK => ?_) ?_
  · go_simp
    refine hK.out _ _ (hHeld.alloc hHeld.size _) (fun hHeld => ?_)
    clear hK K
    refine any_named (fun W => Below W0.heap.size W0 W ∧ Blk W v0.heap.size TD [.slice none 0 0, .int .i64 0, .int .i64 0]) ⟨hHeld, by (repeat' (first | (with_reducible refine BlkP.Blk.drew ?_) | (with_reducible refine BlkP.Blk.drewN ?_ _) | (with_reducible refine BlkP.Blk.setAt (us := ?_) (by first | omega | (simp; done) | (simp; omega)) rfl ?_ ?_) | (with_reducible refine BlkP.Blk.otherAt ?_ (by first | omega | (simp; done) | (simp; omega))) | (with_reducible refine BlkP.Blk.newA' (by first | omega | (simp; done) | (simp; omega)) rfl) | (with_reducible refine BlkP.Blk.alloc ?_ _) | (exact rfl)))⟩ ?_
    clear hHeld
    rintro v1 ⟨hHeld, hA⟩
    have hSv1 := hHeld.size
    refine wpAnyH_ready (rs := [1, 5]) (by kernel_rfl) (by simp) ?_
    refine AllReadyH.cons (o := ⟨some 30, _, _, _, _, _⟩) rfl (fun K hK => ?_) ?_
    · have hHeld0 := hHeld.size
      go_simp
      refine (Next_c (n := n) (HT.out.below (below_t HB0.out hHeld))).mono ?_
      rintro e wf ⟨vf, rfl, hof, hbf⟩
      rw [HL.out] at hof
      obtain ⟨AR, cR, rfl, _, _, _⟩ := hof.form HK.out
      go_wp2_with fail
      refine hK.out _ _ (below_t hHeld hbf) (fun hHeld => ?_)
      clear hK K
      refine any_named (fun W => Below W0.heap.size W0 W ∧ Blk W v0.heap.size TD [.slice none 0 0, .int .i64 0, .int .i64 0] ∧ RowG.Own encX TX W W0.heap.size (.slice AR k cR) l) ⟨hHeld, hA.below hbf, hof.mono (show W0.heap.size ≤ _ from hHeld0)⟩ ?_
      clear hHeld hA
      rintro v2 ⟨hHeld, hA, hR⟩
      have hSv2 := hHeld.size
      clear hof hbf
      refine wpAnyH_ready (rs := [3, 5]) (by kernel_rfl) (by simp) ?_
      refine AllReadyH.cons (o := ⟨some 32, _, _, _, _, _⟩) rfl (fun K hK => ?_) ?_
      · have hHeld0 := hHeld.size
        go_simp
        refine (Next_c (n := m) (HT.out.below (below_t HB0.out hHeld))).mono ?_
        rintro e wf ⟨vf, rfl, hof, hbf⟩
        rw [HDM.out, HL.out] at hof
        obtain ⟨AQ, cQ, rfl, _, _, _⟩ := hof.form HK.out
        go_wp2_with fail
        refine hK.out _ _ (below_t hHeld hbf) (fun hHeld => ?_)
        clear hK K
        refine any_named (fun W => Below W0.heap.size W0 W ∧ Blk W v0.heap.size TD [.slice none 0 0, .int .i64 0, .int .i64 0] ∧ RowG.Own encX TX W W0.heap.size (.slice AR k cR) l ∧ RowG.Own encX TX W W0.heap.size (.slice AQ k cQ) l) ⟨hHeld, hA.below hbf, hR.below hbf, hof.mono (show W0.heap.size ≤ _ from hHeld0)⟩ ?_
        clear hHeld hA hR
        rintro v3 ⟨hHeld, hA, hR, hQ⟩
        have hSv3 := hHeld.size
        clear hof hbf
        refine wpAnyH_ready (rs := [5]) (by kernel_rfl) (by simp) ?_
        refine AllReadyH.cons (o := ⟨some 13, _, _, _, _, _⟩) rfl (fun K hK => ?_) ?_
        · go_simp
          refine hK.out _ _ (hHeld.alloc hHeld.size _) (fun hHeld => ?_)
          clear hK K
          have lA := hA.lt
          refine any_named (fun W => Below W0.heap.size W0 W ∧ Blk W v0.heap.size TD [.slice none 0 0, .int .i64 0, .int .i64 0] ∧ Blk W v3.heap.size TD [.slice none 0 0, .int .i64 0, .int .i64 0] ∧ RowG.Own encX TX W W0.heap.size (.slice AR k cR) l ∧ RowG.Own encX TX W W0.heap.size (.slice AQ k cQ) l) ⟨hHeld, by (repeat' (first | (with_reducible exact hA) | (with_reducible refine BlkP.Blk.drew ?_) | (with_reducible refine BlkP.Blk.drewN ?_ _) | (with_reducible refine BlkP.Blk.setAt (us := ?_) (by first | omega | (simp; done) | (simp; omega)) rfl ?_ ?_) | (with_reducible refine BlkP.Blk.otherAt ?_ (by first | omega | (simp; done) | (simp; omega))) | (with_reducible refine BlkP.Blk.newA' (by first | omega | (simp; done) | (simp; omega)) rfl) | (with_reducible refine BlkP.Blk.alloc ?_ _) | (exact rfl))), by (repeat' (first | (with_reducible refine BlkP.Blk.drew ?_) | (with_reducible refine BlkP.Blk.drewN ?_ _) | (with_reducible refine BlkP.Blk.setAt (us := ?_) (by first | omega | (simp; done) | (simp; omega)) rfl ?_ ?_) | (with_reducible refine BlkP.Blk.otherAt ?_ (by first | omega | (simp; done) | (simp; omega))) | (with_reducible refine BlkP.Blk.newA' (by first | omega | (simp; done) | (simp; omega)) rfl) | (with_reducible refine BlkP.Blk.alloc ?_ _) | (exact rfl))), hR.below (by (repeat' (first | (with_reducible exact Below.refl _ _) | (with_reducible refine Below.setCell ?_ (by (first | omega | (simp; done) | (simp; omega))) _) | (with_reducible refine Below.alloc ?_ (by (first | omega | (simp; done) | (simp; omega))) _) | (with_reducible refine Below.drew ?_) | (with_reducible refine below_drewN ?_ _)))), hQ.below (by (repeat' (first | (with_reducible exact Below.refl _ _) | (with_reducible refine Below.setCell ?_ (by (first | omega | (simp; done) | (simp; omega))) _) | (with_reducible refine Below.alloc ?_ (by (first | omega | (simp; done) | (simp; omega))) _) | (with_reducible refine Below.drew ?_) | (with_reducible refine below_drewN ?_ _))))⟩ ?_
          clear hHeld hA hR hQ
          rintro v4 ⟨hHeld, hA, hN, hR, hQ⟩
          have hSv4 := hHeld.size
          refine wpAnyH_ready (rs := [6]) (by kernel_rfl) (by simp) ?_
          refine AllReadyH.cons (o := ⟨none, _, _, _, _, _⟩) rfl (fun K hK => ?_) ?_
          · have e0 := hA.cell (i := 0) (v := .slice none 0 0) rfl
            have f0 := hA.frozen 0
            have e1 := hA.cell (i := 1) (v := .int .i64 0) rfl
            have f1 := hA.frozen 1
            have e2 := hA.cell (i := 2) (v := .int .i64 0) rfl
            have f2 := hA.frozen 2
            have lA := hA.lt
            have lN := hN.lt
            go_simp
            refine hK.out _ _ (by (repeat' (first | (with_reducible exact Below.refl _ _) | (with_reducible refine Below.setCell ?_ (by (first | omega | (simp; done) | (simp; omega))) _) | (with_reducible refine Below.alloc ?_ (by (first | omega | (simp; done) | (simp; omega))) _) | (with_reducible refine Below.drew ?_) | (with_reducible refine below_drewN ?_ _) | (with_reducible refine Below.trans ?_ (Below.mono hHeld (by (first | omega | (simp; done) | (simp; omega)))))))) (fun hHeld => ?_)
            clear hK K
            clear e0 e1 e2 f0 f1 f2
            refine any_named (fun W => Below W0.heap.size W0 W ∧ Blk W v0.heap.size TD [.slice AR k cR, .int .i64 0, .int .i64 0] ∧ Blk W v3.heap.size TD [.slice none 0 0, .int .i64 0, .int .i64 0] ∧ RowG.Own encX TX W W0.heap.size (.slice AR k cR) l ∧ RowG.Own encX TX W W0.heap.size (.slice AQ k cQ) l) ⟨hHeld, by (repeat' (first | (with_reducible exact hA) | (with_reducible refine BlkP.Blk.drew ?_) | (with_reducible refine BlkP.Blk.drewN ?_ _) | (with_reducible refine BlkP.Blk.setAt (us := ?_) (by first | omega | (simp; done) | (simp; omega)) rfl ?_ ?_) | (with_reducible refine BlkP.Blk.otherAt ?_ (by first | omega | (simp; done) | (simp; omega))) | (with_reducible refine BlkP.Blk.newA' (by first | omega | (simp; done) | (simp; omega)) rfl) | (with_reducible refine BlkP.Blk.alloc ?_ _) | (exact rfl))), by (repeat' (first | (with_reducible exact hN) | (with_reducible refine BlkP.Blk.drew ?_) | (with_reducible refine BlkP.Blk.drewN ?_ _) | (with_reducible refine BlkP.Blk.setAt (us := ?_) (by first | omega | (simp; done) | (simp; omega)) rfl ?_ ?_) | (with_reducible refine BlkP.Blk.otherAt ?_ (by first | omega | (simp; done) | (simp; omega))) | (with_reducible refine BlkP.Blk.newA' (by first | omega | (simp; done) | (simp; omega)) rfl) | (with_reducible refine BlkP.Blk.alloc ?_ _) | (exact rfl))), by first | exact own_set3 hR hA | exact own_set3 hR.drew hA.drew, by first | exact own_set3 hQ hA | exact own_set3 hQ.drew hA.drew⟩ ?_
            clear hHeld hA hN hR hQ
            rintro v5 ⟨hHeld, hA, hN, hR, hQ⟩
            have hSv5 := hHeld.size
            refine wpAnyH_ready (rs := [7]) (by kernel_rfl) (by simp) ?_
            refine AllReadyH.cons (o := ⟨none, _, _, _, _, _⟩) rfl (fun K hK => ?_) ?_
            · have e0 := hN.cell (i := 0) (v := .slice none 0 0) rfl
              have f0 := hN.frozen 0
              have e1 := hN.cell (i := 1) (v := .int .i64 0) rfl
              have f1 := hN.frozen 1
              have e2 := hN.cell (i := 2) (v := .int .i64 0) rfl
              have f2 := hN.frozen 2
              have lA := hA.lt
              have lN := hN.lt
              go_simp
              refine hK.out _ _ (by (repeat' (first | (with_reducible exact Below.refl _ _) | (with_reducible refine Below.setCell ?_ (by (first | omega | (simp; done) | (simp; omega))) _) | (with_reducible refine Below.alloc ?_ (by (first | omega | (simp; done) | (simp; omega))) _) | (with_reducible refine Below.drew ?_) | (with_reducible refine below_drewN ?_ _) | (with_reducible refine Below.trans ?_ (Below.mono hHeld (by (first | omega | (simp; done) | (simp; omega)))))))) (fun hHeld => ?_)
              clear hK K
              clear e0 e1 e2 f0 f1 f2
              refine any_named (fun W => Below W0.heap.size W0 W ∧ Blk W v0.heap.size TD [.slice AR k cR, .int .i64 0, .int .i64 0] ∧ Blk W v3.heap.size TD [.slice AQ k cQ, .int .i64 0, .int .i64 0] ∧ RowG.Own encX TX W W0.heap.size (.slice AR k cR) l ∧ RowG.Own encX TX W W0.heap.size (.slice AQ k cQ) l) ⟨hHeld, by (repeat' (first | (with_reducible exact hA) | (with_reducible refine BlkP.Blk.drew ?_) | (with_reducible refine BlkP.Blk.drewN ?_ _) | (with_reducible refine BlkP.Blk.setAt (us := ?_) (by first | omega | (simp; done) | (simp; omega)) rfl ?_ ?_) | (with_reducible refine BlkP.Blk.otherAt ?_ (by first | omega | (simp; done) | (simp; omega))) | (with_reducible refine BlkP.Blk.newA' (by first | omega | (simp; done) | (simp; omega)) rfl) | (with_reducible refine BlkP.Blk.alloc ?_ _) | (exact rfl))), by (repeat' (first | (with_reducible exact hN) | (with_reducible refine BlkP.Blk.drew ?_) | (with_reducible refine BlkP.Blk.drewN ?_ _) | (with_reducible refine BlkP.Blk.setAt (us := ?_) (by first | omega | (simp; done) | (simp; omega)) rfl ?_ ?_) | (with_reducible refine BlkP.Blk.otherAt ?_ (by first | omega | (simp; done) | (simp; omega))) | (with_reducible refine BlkP.Blk.newA' (by first | omega | (simp; done) | (simp; omega)) rfl) | (with_reducible refine BlkP.Blk.alloc ?_ _) | (exact rfl))), by first | exact own_set3 hR hN | exact own_set3 hR.drew hN.drew, by first | exact own_set3 hQ hN | exact own_set3 hQ.drew hN.drew⟩ ?_
              clear hHeld hA hN hR hQ
              rintro v6 ⟨hHeld, hA, hN, hR, hQ⟩
              have hSv6 := hHeld.size
              refine wpAnyH_done (by kernel_rfl) ?_ _
              refine NoPanic.normal ?_
              have a0 := hA.cell (i := 0) rfl
              have a1 := hA.cell (i := 1) rfl
              have a2 := hA.cell (i := 2) rfl
              have b0 := hN.cell (i := 0) rfl
              have b1 := hN.cell (i := 1) rfl
              have b2 := hN.cell (i := 2) rfl
              have HBE := Lib.hid (below_t HB0.out hHeld)
              have HRE := Lib.hid hR.rd
              have HQE := Lib.hid hQ.rd
              clear hA hN hR hQ hHeld
              go_wp2_with fail
              refine (same_c HRE.out HQE.out HK.out HK4.out).mono ?_
              rintro e x1 ⟨rfl, hbx⟩
              have HX1 := Lib.hid (below_t HBE.out hbx)
              clear hbx a0 a1 a2 b0 b1 b2
              go_wp2_with fail
              refine (works_c (HT.out.below HX1.out)).mono ?_
              rintro e x2 ⟨rfl, hbx⟩
              have HX2 := Lib.hid (below_t HX1.out hbx)
              clear hbx
              go_wp2_with fail
              go_ret
              exact ⟨rfl, HX2.out⟩
            exact AllReadyH.nil
          exact AllReadyH.nil
        exact AllReadyH.nil
      refine AllReadyH.cons (o := ⟨some 13, _, _, _, _, _⟩) rfl (fun K hK => ?_) ?_
      · go_simp
        refine hK.out _ _ (hHeld.alloc hHeld.size _) (fun hHeld => ?_)
        clear hK K
        have lA := hA.lt
        refine any_named (fun W => Below W0.heap.size W0 W ∧ Blk W v0.heap.size TD [.slice none 0 0, .int .i64 0, .int .i64 0] ∧ Blk W v2.heap.size TD [.slice none 0 0, .int .i64 0, .int .i64 0] ∧ RowG.Own encX TX W W0.heap.size (.slice AR k cR) l) ⟨hHeld, by (repeat' (first | (with_reducible exact hA) | (with_reducible refine BlkP.Blk.drew ?_) | (with_reducible refine BlkP.Blk.drewN ?_ _) | (with_reducible refine BlkP.Blk.setAt (us := ?_) (by first | omega | (simp; done) | (simp; omega)) rfl ?_ ?_) | (with_reducible refine BlkP.Blk.otherAt ?_ (by first | omega | (simp; done) | (simp; omega))) | (with_reducible refine BlkP.Blk.newA' (by first | omega | (simp; done) | (simp; omega)) rfl) | (with_reducible refine BlkP.Blk.alloc ?_ _) | (exact rfl))), by (repeat' (first | (with_reducible refine BlkP.Blk.drew ?_) | (with_reducible refine BlkP.Blk.drewN ?_ _) | (with_reducible refine BlkP.Blk.setAt (us := ?_) (by first | omega | (simp; done) | (simp; omega)) rfl ?_ ?_) | (with_reducible refine BlkP.Blk.otherAt ?_ (by first | omega | (simp; done) | (simp; omega))) | (with_reducible refine BlkP.Blk.newA' (by first | omega | (simp; done) | (simp; omega)) rfl) | (with_reducible refine BlkP.Blk.alloc ?_ _) | (exact rfl))), hR.below (by (repeat' (first | (with_reducible exact Below.refl _ _) | (with_reducible refine Below.setCell ?_ (by (first | omega | (simp; done) | (simp; omega))) _) | (with_reducible refine Below.alloc ?_ (by (first | omega | (simp; done) | (simp; omega))) _) | (with_reducible refine Below.drew ?_) | (with_reducible refine below_drewN ?_ _))))⟩ ?_
        clear hHeld hA hR
        rintro v3 ⟨hHeld, hA, hN, hR⟩
        have hSv3 := hHeld.size
        refine wpAnyH_ready (rs := [3]) (by kernel_rfl) (by simp) ?_
        refine AllReadyH.cons (o := ⟨some 32, _, _, _, _, _⟩) rfl (fun K hK => ?_) ?_
        · have hHeld0 := hHeld.size
          go_simp
          refine (Next_c (n := m) (HT.out.below (below_t HB0.out hHeld))).mono ?_
          rintro e wf ⟨vf, rfl, hof, hbf⟩
          rw [HDM.out, HL.out] at hof
          obtain ⟨AQ, cQ, rfl, _, _, _⟩ := hof.form HK.out
          go_wp2_with fail
          refine hK.out _ _ (below_t hHeld hbf) (fun hHeld => ?_)
          clear hK K
          refine any_named (fun W => Below W0.heap.size W0 W ∧ Blk W v0.heap.size TD [.slice none 0 0, .int .i64 0, .int .i64 0] ∧ Blk W v2.heap.size TD [.slice none 0 0, .int .i64 0, .int .i64 0] ∧ RowG.Own encX TX W W0.heap.size (.slice AR k cR) l ∧ RowG.Own encX TX W W0.heap.size (.slice AQ k cQ) l) ⟨hHeld, hA.below hbf, hN.below hbf, hR.below hbf, hof.mono (show W0.heap.size ≤ _ from hHeld0)⟩ ?_
          clear hHeld hA hN hR
          rintro v4 ⟨hHeld, hA, hN, hR, hQ⟩
          have hSv4 := hHeld.size
          clear hof hbf
          refine wpAnyH_ready (rs := [6]) (by kernel_rfl) (by simp) ?_
          refine AllReadyH.cons (o := ⟨none, _, _, _, _, _⟩) rfl (fun K hK => ?_) ?_
          · have e0 := hA.cell (i := 0) (v := .slice none 0 0) rfl
            have f0 := hA.frozen 0
            have e1 := hA.cell (i := 1) (v := .int .i64 0) rfl
            have f1 := hA.frozen 1
            have e2 := hA.cell (i := 2) (v := .int .i64 0) rfl
            have f2 := hA.frozen 2
            have lA := hA.lt
            have lN := hN.lt
            go_simp
            refine hK.out _ _ (by (repeat' (first | (with_reducible exact Below.refl _ _) | (with_reducible refine Below.setCell ?_ (by (first | omega | (simp; done) | (simp; omega))) _) | (with_reducible refine Below.alloc ?_ (by (first | omega | (simp; done) | (simp; omega))) _) | (with_reducible refine Below.drew ?_) | (with_reducible refine below_drewN ?_ _) | (with_reducible refine Below.trans ?_ (Below.mono hHeld (by (first | omega | (simp; done) | (simp; omega)))))))) (fun hHeld => ?_)
            clear hK K
            clear e0 e1 e2 f0 f1 f2
            refine any_named (fun W => Below W0.heap.size W0 W ∧ Blk W v0.heap.size TD [.slice AR k cR, .int .i64 0, .int .i64 0] ∧ Blk W v2.heap.size TD [.slice none 0 0, .int .i64 0, .int .i64 0] ∧ RowG.Own encX TX W W0.heap.size (.slice AR k cR) l ∧ RowG.Own encX TX W W0.heap.size (.slice AQ k cQ) l) ⟨hHeld, by (repeat' (first | (with_reducible exact hA) | (with_reducible refine BlkP.Blk.drew ?_) | (with_reducible refine BlkP.Blk.drewN ?_ _) | (with_reducible refine BlkP.Blk.setAt (us := ?_) (by first | omega | (simp; done) | (simp; omega)) rfl ?_ ?_) | (with_reducible refine BlkP.Blk.otherAt ?_ (by first | omega | (simp; done) | (simp; omega))) | (with_reducible refine BlkP.Blk.newA' (by first | omega | (simp; done) | (simp; omega)) rfl) | (with_reducible refine BlkP.Blk.alloc ?_ _) | (exact rfl))), by (repeat' (first | (with_reducible exact hN) | (with_reducible refine BlkP.Blk.drew ?_) | (with_reducible refine BlkP.Blk.drewN ?_ _) | (with_reducible refine BlkP.Blk.setAt (us := ?_) (by first | omega | (simp; done) | (simp; omega)) rfl ?_ ?_) | (with_reducible refine BlkP.Blk.otherAt ?_ (by first | omega | (simp; done) | (simp; omega))) | (with_reducible refine BlkP.Blk.newA' (by first | omega | (simp; done) | (simp; omega)) rfl) | (with_reducible refine BlkP.Blk.alloc ?_ _) | (exact rfl))), by first | exact own_set3 hR hA | exact own_set3 hR.drew hA.drew, by first | exact own_set3 hQ hA | exact own_set3 hQ.drew hA.drew⟩ ?_
            clear hHeld hA hN hR hQ
            rintro v5 ⟨hHeld, hA, hN, hR, hQ⟩
            have hSv5 := hHeld.size
            refine wpAnyH_ready (rs := [7]) (by kernel_rfl) (by simp) ?_
            refine AllReadyH.cons (o := ⟨none, _, _, _, _, _⟩) rfl (fun K hK => ?_) ?_
            · have e0 := hN.cell (i := 0) (v := .slice none 0 0) rfl
              have f0 := hN.frozen 0
              have e1 := hN.cell (i := 1) (v := .int .i64 0) rfl
              have f1 := hN.frozen 1
              have e2 := hN.cell (i := 2) (v := .int .i64 0) rfl
              have f2 := hN.frozen 2
              have lA := hA.lt
              have lN := hN.lt
              go_simp
              refine hK.out _ _ (by (repeat' (first | (with_reducible exact Below.refl _ _) | (with_reducible refine Below.setCell ?_ (by (first | omega | (simp; done) | (simp; omega))) _) | (with_reducible refine Below.alloc ?_ (by (first | omega | (simp; done) | (simp; omega))) _) | (with_reducible refine Below.drew ?_) | (with_reducible refine below_drewN ?_ _) | (with_reducible refine Below.trans ?_ (Below.mono hHeld (by (first | omega | (simp; done) | (simp; omega)))))))) (fun hHeld => ?_)
              clear hK K
              clear e0 e1 e2 f0 f1 f2
              refine any_named (fun W => Below W0.heap.size W0 W ∧ Blk W v0.heap.size TD [.slice AR k cR, .int .i64 0, .int .i64 0] ∧ Blk W v2.heap.size TD [.slice AQ k cQ, .int .i64 0, .int .i64 0] ∧ RowG.Own encX TX W W0.heap.size (.slice AR k cR) l ∧ RowG.Own encX TX W W0.heap.size (.slice AQ k cQ) l) ⟨hHeld, by (repeat' (first | (with_reducible exact hA) | (with_reducible refine BlkP.Blk.drew ?_) | (with_reducible refine BlkP.Blk.drewN ?_ _) | (with_reducible refine BlkP.Blk.setAt (us := ?_) (by first | omega | (simp; done) | (simp; omega)) rfl ?_ ?_) | (with_reducible refine BlkP.Blk.otherAt ?_ (by first | omega | (simp; done) | (simp; omega))) | (with_reducible refine BlkP.Blk.newA' (by first | omega | (simp; done) | (simp; omega)) rfl) | (with_reducible refine BlkP.Blk.alloc ?_ _) | (exact rfl))), by (repeat' (first | (with_reducible exact hN) | (with_reducible refine BlkP.Blk.drew ?_) | (with_reducible refine BlkP.Blk.drewN ?_ _) | (with_reducible refine BlkP.Blk.setAt (us := ?_) (by first | omega | (simp; done) | (simp; omega)) rfl ?_ ?_) | (with_reducible refine BlkP.Blk.otherAt ?_ (by first | omega | (simp; done) | (simp; omega))) | (with_reducible refine BlkP.Blk.newA' (by first | omega | (simp; done) | (simp; omega)) rfl) | (with_reducible refine BlkP.Blk.alloc ?_ _) | (exact rfl))), by first | exact own_set3 hR hN | exact own_set3 hR.drew hN.drew, by first | exact own_set3 hQ hN | exact own_set3 hQ.drew hN.drew⟩ ?_
              clear hHeld hA hN hR hQ
              rintro v6 ⟨hHeld, hA, hN, hR, hQ⟩
              have hSv6 := hHeld.size
              refine wpAnyH_done (by kernel_rfl) ?_ _
              refine NoPanic.normal ?_
              have a0 := hA.cell (i := 0) rfl
              have a1 := hA.cell (i := 1) rfl
              have a2 := hA.cell (i := 2) rfl
              have b0 := hN.cell (i := 0) rfl
              have b1 := hN.cell (i := 1) rfl
              have b2 := hN.cell (i := 2) rfl
              have HBE := Lib.hid (below_t HB0.out hHeld)
              have HRE := Lib.hid hR.rd
              have HQE := Lib.hid hQ.rd
              clear hA hN hR hQ hHeld
              go_wp2_with fail
              refine (same_c HRE.out HQE.out HK.out HK4.out).mono ?_
              rintro e x1 ⟨rfl, hbx⟩
              have HX1 := Lib.hid (below_t HBE.out hbx)
              clear hbx a0 a1 a2 b0 b1 b2
              go_wp2_with fail
              refine (works_c (HT.out.below HX1.out)).mono ?_
              rintro e x2 ⟨rfl, hbx⟩
              have HX2 := Lib.hid (below_t HX1.out hbx)
              clear hbx
              go_wp2_with fail
              go_ret
              exact ⟨rfl, HX2.out⟩
            exact AllReadyH.nil
          exact AllReadyH.nil
        exact AllReadyH.nil
      exact AllReadyH.nil
    refine AllReadyH.cons (o := ⟨some 13, _, _, _, _, _⟩) rfl (fun K hK => ?_) ?_
    · go_simp
      refine hK.out _ _ (hHeld.alloc hHeld.size _) (fun hHeld => ?_)
      clear hK K
      have lA := hA.lt
      refine any_named (fun W => Below W0.heap.size W0 W ∧ Blk W v0.heap.size TD [.slice none 0 0, .int .i64 0, .int .i64 0] ∧ Blk W v1.heap.size TD [.slice none 0 0, .int .i64 0, .int .i64 0]) ⟨hHeld, by (repeat' (first | (with_reducible exact hA) | (with_reducible refine BlkP.Blk.drew ?_) | (with_reducible refine BlkP.Blk.drewN ?_ _) | (with_reducible refine BlkP.Blk.setAt (us := ?_) (by first | omega | (simp; done) | (simp; omega)) rfl ?_ ?_) | (with_reducible refine BlkP.Blk.otherAt ?_ (by first | omega | (simp; done) | (simp; omega))) | (with_reducible refine BlkP.Blk.newA' (by first | omega | (simp; done) | (simp; omega)) rfl) | (with_reducible refine BlkP.Blk.alloc ?_ _) | (exact rfl))), by (repeat' (first | (with_reducible refine BlkP.Blk.drew ?_) | (with_reducible refine BlkP.Blk.drewN ?_ _) | (with_reducible refine BlkP.Blk.setAt (us := ?_) (by first | omega | (simp; done) | (simp; omega)) rfl ?_ ?_) | (with_reducible refine BlkP.Blk.otherAt ?_ (by first | omega | (simp; done) | (simp; omega))) | (with_reducible refine BlkP.Blk.newA' (by first | omega | (simp; done) | (simp; omega)) rfl) | (with_reducible refine BlkP.Blk.alloc ?_ _) | (exact rfl)))⟩ ?_
      clear hHeld hA
      rintro v2 ⟨hHeld, hA, hN⟩
      have hSv2 := hHeld.size
      refine wpAnyH_ready (rs := [1]) (by kernel_rfl) (by simp) ?_
      refine AllReadyH.cons (o := ⟨some 30, _, _, _, _, _⟩) rfl (fun K hK => ?_) ?_
      · have hHeld0 := hHeld.size
        go_simp
        refine (Next_c (n := n) (HT.out.below (below_t HB0.out hHeld))).mono ?_
        rintro e wf ⟨vf, rfl, hof, hbf⟩
        rw [HL.out] at hof
        obtain ⟨AR, cR, rfl, _, _, _⟩ := hof.form HK.out
        go_wp2_with fail
        refine hK.out _ _ (below_t hHeld hbf) (fun hHeld => ?_)
        clear hK K
        refine any_named (fun W => Below W0.heap.size W0 W ∧ Blk W v0.heap.size TD [.slice none 0 0, .int .i64 0, .int .i64 0] ∧ Blk W v1.heap.size TD [.slice none 0 0, .int .i64 0, .int .i64 0] ∧ RowG.Own encX TX W W0.heap.size (.slice AR k cR) l) ⟨hHeld, hA.below hbf, hN.below hbf, hof.mono (show W0.heap.size ≤ _ from hHeld0)⟩ ?_
        clear hHeld hA hN
        rintro v3 ⟨hHeld, hA, hN, hR⟩
        have hSv3 := hHeld.size
        clear hof hbf
        refine wpAnyH_ready (rs := [3]) (by kernel_rfl) (by simp) ?_
        refine AllReadyH.cons (o := ⟨some 32, _, _, _, _, _⟩) rfl (fun K hK => ?_) ?_
        · have hHeld0 := hHeld.size
          go_simp
          refine (Next_c (n := m) (HT.out.below (below_t HB0.out hHeld))).mono ?_
          rintro e wf ⟨vf, rfl, hof, hbf⟩
          rw [HDM.out, HL.out] at hof
          obtain ⟨AQ, cQ, rfl, _, _, _⟩ := hof.form HK.out
          go_wp2_with fail
          refine hK.out _ _ (below_t hHeld hbf) (fun hHeld => ?_)
          clear hK K
          refine any_named (fun W => Below W0.heap.size W0 W ∧ Blk W v0.heap.size TD [.slice none 0 0, .int .i64 0, .int .i64 0] ∧ Blk W v1.heap.size TD [.slice none 0 0, .int .i64 0, .int .i64 0] ∧ RowG.Own encX TX W W0.heap.size (.slice AR k cR) l ∧ RowG.Own encX TX W W0.heap.size (.slice AQ k cQ) l) ⟨hHeld, hA.below hbf, hN.below hbf, hR.below hbf, hof.mono (show W0.heap.size ≤ _ from hHeld0)⟩ ?_
          clear hHeld hA hN hR
          rintro v4 ⟨hHeld, hA, hN, hR, hQ⟩
          have hSv4 := hHeld.size
          clear hof hbf
          refine wpAnyH_ready (rs := [6]) (by kernel_rfl) (by simp) ?_
          refine AllReadyH.cons (o := ⟨none, _, _, _, _, _⟩) rfl (fun K hK => ?_) ?_
          · have e0 := hA.cell (i := 0) (v := .slice none 0 0) rfl
            have f0 := hA.frozen 0
            have e1 := hA.cell (i := 1) (v := .int .i64 0) rfl
            have f1 := hA.frozen 1
            have e2 := hA.cell (i := 2) (v := .int .i64 0) rfl
            have f2 := hA.frozen 2
            have lA := hA.lt
            have lN := hN.lt
            go_simp
            refine hK.out _ _ (by (repeat' (first | (with_reducible exact Below.refl _ _) | (with_reducible refine Below.setCell ?_ (by (first | omega | (simp; done) | (simp; omega))) _) | (with_reducible refine Below.alloc ?_ (by (first | omega | (simp; done) | (simp; omega))) _) | (with_reducible refine Below.drew ?_) | (with_reducible refine below_drewN ?_ _) | (with_reducible refine Below.trans ?_ (Below.mono hHeld (by (first | omega | (simp; done) | (simp; omega)))))))) (fun hHeld => ?_)
            clear hK K
            clear e0 e1 e2 f0 f1 f2
            refine any_named (fun W => Below W0.heap.size W0 W ∧ Blk W v0.heap.size TD [.slice AR k cR, .int .i64 0, .int .i64 0] ∧ Blk W v1.heap.size TD [.slice none 0 0, .int .i64 0, .int .i64 0] ∧ RowG.Own encX TX W W0.heap.size (.slice AR k cR) l ∧ RowG.Own encX TX W W0.heap.size (.slice AQ k cQ) l) ⟨hHeld, by (repeat' (first | (with_reducible exact hA) | (with_reducible refine BlkP.Blk.drew ?_) | (with_reducible refine BlkP.Blk.drewN ?_ _) | (with_reducible refine BlkP.Blk.setAt (us := ?_) (by first | omega | (simp; done) | (simp; omega)) rfl ?_ ?_) | (with_reducible refine BlkP.Blk.otherAt ?_ (by first | omega | (simp; done) | (simp; omega))) | (with_reducible refine BlkP.Blk.newA' (by first | omega | (simp; done) | (simp; omega)) rfl) | (with_reducible refine BlkP.Blk.alloc ?_ _) | (exact rfl))), by (repeat' (first | (with_reducible exact hN) | (with_reducible refine BlkP.Blk.drew ?_) | (with_reducible refine BlkP.Blk.drewN ?_ _) | (with_reducible refine BlkP.Blk.setAt (us := ?_) (by first | omega | (simp; done) | (simp; omega)) rfl ?_ ?_) | (with_reducible refine BlkP.Blk.otherAt ?_ (by first | omega | (simp; done) | (simp; omega))) | (with_reducible refine BlkP.Blk.newA' (by first | omega | (simp; done) | (simp; omega)) rfl) | (with_reducible refine BlkP.Blk.alloc ?_ _) | (exact rfl))), by first | exact own_set3 hR hA | exact own_set3 hR.drew hA.drew, by first | exact own_set3 hQ hA | exact own_set3 hQ.drew hA.drew⟩ ?_
            clear hHeld hA hN hR hQ
            rintro v5 ⟨hHeld, hA, hN, hR, hQ⟩
            have hSv5 := hHeld.size
            refine wpAnyH_ready (rs := [7]) (by kernel_rfl) (by simp) ?_
            refine AllReadyH.cons (o := ⟨none, _, _, _, _, _⟩) rfl (fun K hK => ?_) ?_
            · have e0 := hN.cell (i := 0) (v := .slice none 0 0) rfl
              have f0 := hN.frozen 0
              have e1 := hN.cell (i := 1) (v := .int .i64 0) rfl
              have f1 := hN.frozen 1
              have e2 := hN.cell (i := 2) (v := .int .i64 0) rfl
              have f2 := hN.frozen 2
              have lA := hA.lt
              have lN := hN.lt
              go_simp
              refine hK.out _ _ (by (repeat' (first | (with_reducible exact Below.refl _ _) | (with_reducible refine Below.setCell ?_ (by (first | omega | (simp; done) | (simp; omega))) _) | (with_reducible refine Below.alloc ?_ (by (first | omega | (simp; done) | (simp; omega))) _) | (with_reducible refine Below.drew ?_) | (with_reducible refine below_drewN ?_ _) | (with_reducible refine Below.trans ?_ (Below.mono hHeld (by (first | omega | (simp; done) | (simp; omega)))))))) (fun hHeld => ?_)
              clear hK K
              clear e0 e1 e2 f0 f1 f2
              refine any_named (fun W => Below W0.heap.size W0 W ∧ Blk W v0.heap.size TD [.slice AR k cR, .int .i64 0, .int .i64 0] ∧ Blk W v1.heap.size TD [.slice AQ k cQ, .int .i64 0, .int .i64 0] ∧ RowG.Own encX TX W W0.heap.size (.slice AR k cR) l ∧ RowG.Own encX TX W W0.heap.size (.slice AQ k cQ) l) ⟨hHeld, by (repeat' (first | (with_reducible exact hA) | (with_reducible refine BlkP.Blk.drew ?_) | (with_reducible refine BlkP.Blk.drewN ?_ _) | (with_reducible refine BlkP.Blk.setAt (us := ?_) (by first | omega | (simp; done) | (simp; omega)) rfl ?_ ?_) | (with_reducible refine BlkP.Blk.otherAt ?_ (by first | omega | (simp; done) | (simp; omega))) | (with_reducible refine BlkP.Blk.newA' (by first | omega | (simp; done) | (simp; omega)) rfl) | (with_reducible refine BlkP.Blk.alloc ?_ _) | (exact rfl))), by (repeat' (first | (with_reducible exact hN) | (with_reducible refine BlkP.Blk.drew ?_) | (with_reducible refine BlkP.Blk.drewN ?_ _) | (with_reducible refine BlkP.Blk.setAt (us := ?_) (by first | omega | (simp; done) | (simp; omega)) rfl ?_ ?_) | (with_reducible refine BlkP.Blk.otherAt ?_ (by first | omega | (simp; done) | (simp; omega))) | (with_reducible refine BlkP.Blk.newA' (by first | omega | (simp; done) | (simp; omega)) rfl) | (with_reducible refine BlkP.Blk.alloc ?_ _) | (exact rfl))), by first | exact own_set3 hR hN | exact own_set3 hR.drew hN.drew, by first | exact own_set3 hQ hN | exact own_set3 hQ.drew hN.drew⟩ ?_
              clear hHeld hA hN hR hQ
              rintro v6 ⟨hHeld, hA, hN, hR, hQ⟩
              have hSv6 := hHeld.size
              refine wpAnyH_done (by kernel_rfl) ?_ _
              refine NoPanic.normal ?_
              have a0 := hA.cell (i := 0) rfl
              have a1 := hA.cell (i := 1) rfl
              have a2 := hA.cell (i := 2) rfl
              have b0 := hN.cell (i := 0) rfl
              have b1 := hN.cell (i := 1) rfl
              have b2 := hN.cell (i := 2) rfl
              have HBE := Lib.hid (below_t HB0.out hHeld)
              have HRE := Lib.hid hR.rd
              have HQE := Lib.hid hQ.rd
              clear hA hN hR hQ hHeld
              go_wp2_with fail
              refine (same_c HRE.out HQE.out HK.out HK4.out).mono ?_
              rintro e x1 ⟨rfl, hbx⟩
              have HX1 := Lib.hid (below_t HBE.out hbx)
              clear hbx a0 a1 a2 b0 b1 b2
              go_wp2_with fail
              refine (works_c (HT.out.below HX1.out)).mono ?_
              rintro e x2 ⟨rfl, hbx⟩
              have HX2 := Lib.hid (below_t HX1.out hbx)
              clear hbx
              go_wp2_with fail
              go_ret
              exact ⟨rfl, HX2.out⟩
            exact AllReadyH.nil
          exact AllReadyH.nil
        exact AllReadyH.nil
      exact AllReadyH.nil
    exact AllReadyH.nil
  refine AllReadyH.cons (o := ⟨some 13, _, _, _, _, _⟩) rfl (fun K hK => ?_) ?_
  · go_simp
    refine hK.out _ _ (hHeld.alloc hHeld.size _) (fun hHeld => ?_)
    clear hK K
    refine any_named (fun W => Below W0.heap.size W0 W ∧ Blk W v0.heap.size TD [.slice none 0 0, .int .i64 0, .int .i64 0]) ⟨hHeld, by (repeat' (first | (with_reducible refine BlkP.Blk.drew ?_) | (with_reducible refine BlkP.Blk.drewN ?_ _) | (with_reducible refine BlkP.Blk.setAt (us := ?_) (by first | omega | (simp; done) | (simp; omega)) rfl ?_ ?_) | (with_reducible refine BlkP.Blk.otherAt ?_ (by first | omega | (simp; done) | (simp; omega))) | (with_reducible refine BlkP.Blk.newA' (by first | omega | (simp; done) | (simp; omega)) rfl) | (with_reducible refine BlkP.Blk.alloc ?_ _) | (exact rfl)))⟩ ?_
    clear hHeld
    rintro v1 ⟨hHeld, hN⟩
    have hSv1 := hHeld.size
    refine wpAnyH_ready (rs := [1, 4]) (by kernel_rfl) (by simp) ?_
    refine AllReadyH.cons (o := ⟨some 30, _, _, _, _, _⟩) rfl (fun K hK => ?_) ?_
    · have hHeld0 := hHeld.size
      go_simp
      refine (Next_c (n := n) (HT.out.below (below_t HB0.out hHeld))).mono ?_
      rintro e wf ⟨vf, rfl, hof, hbf⟩
      rw [HL.out] at hof
      obtain ⟨AR, cR, rfl, _, _, _⟩ := hof.form HK.out
      go_wp2_with fail
      refine hK.out _ _ (below_t hHeld hbf) (fun hHeld => ?_)
      clear hK K
      refine any_named (fun W => Below W0.heap.size W0 W ∧ Blk W v0.heap.size TD [.slice none 0 0, .int .i64 0, .int .i64 0] ∧ RowG.Own encX TX W W0.heap.size (.slice AR k cR) l) ⟨hHeld, hN.below hbf, hof.mono (show W0.heap.size ≤ _ from hHeld0)⟩ ?_
      clear hHeld hN
      rintro v2 ⟨hHeld, hN, hR⟩
      have hSv2 := hHeld.size
      clear hof hbf
      refine wpAnyH_ready (rs := [3, 4]) (by kernel_rfl) (by simp) ?_
      refine AllReadyH.cons (o := ⟨some 32, _, _, _, _, _⟩) rfl (fun K hK => ?_) ?_
      · have hHeld0 := hHeld.size
        go_simp
        refine (Next_c (n := m) (HT.out.below (below_t HB0.out hHeld))).mono ?_
        rintro e wf ⟨vf, rfl, hof, hbf⟩
        rw [HDM.out, HL.out] at hof
        obtain ⟨AQ, cQ, rfl, _, _, _⟩ := hof.form HK.out
        go_wp2_with fail
        refine hK.out _ _ (below_t hHeld hbf) (fun hHeld => ?_)
        clear hK K
        refine any_named (fun W => Below W0.heap.size W0 W ∧ Blk W v0.heap.size TD [.slice none 0 0, .int .i64 0, .int .i64 0] ∧ RowG.Own encX TX W W0.heap.size (.slice AR k cR) l ∧ RowG.Own encX TX W W0.heap.size (.slice AQ k cQ) l) ⟨hHeld, hN.below hbf, hR.below hbf, hof.mono (show W0.heap.size ≤ _ from hHeld0)⟩ ?_
        clear hHeld hN hR
        rintro v3 ⟨hHeld, hN, hR, hQ⟩
        have hSv3 := hHeld.size
        clear hof hbf
        refine wpAnyH_ready (rs := [4]) (by kernel_rfl) (by simp) ?_
        refine AllReadyH.cons (o := ⟨some 12, _, _, _, _, _⟩) rfl (fun K hK => ?_) ?_
        · go_simp
          refine hK.out _ _ (hHeld.alloc hHeld.size _) (fun hHeld => ?_)
          clear hK K
          have lN := hN.lt
          refine any_named (fun W => Below W0.heap.size W0 W ∧ Blk W v3.heap.size TD [.slice none 0 0, .int .i64 0, .int .i64 0] ∧ Blk W v0.heap.size TD [.slice none 0 0, .int .i64 0, .int .i64 0] ∧ RowG.Own encX TX W W0.heap.size (.slice AR k cR) l ∧ RowG.Own encX TX W W0.heap.size (.slice AQ k cQ) l) ⟨hHeld, by (repeat' (first | (with_reducible refine BlkP.Blk.drew ?_) | (with_reducible refine BlkP.Blk.drewN ?_ _) | (with_reducible refine BlkP.Blk.setAt (us := ?_) (by first | omega | (simp; done) | (simp; omega)) rfl ?_ ?_) | (with_reducible refine BlkP.Blk.otherAt ?_ (by first | omega | (simp; done) | (simp; omega))) | (with_reducible refine BlkP.Blk.newA' (by first | omega | (simp; done) | (simp; omega)) rfl) | (with_reducible refine BlkP.Blk.alloc ?_ _) | (exact rfl))), by (repeat' (first | (with_reducible exact hN) | (with_reducible refine BlkP.Blk.drew ?_) | (with_reducible refine BlkP.Blk.drewN ?_ _) | (with_reducible refine BlkP.Blk.setAt (us := ?_) (by first | omega | (simp; done) | (simp; omega)) rfl ?_ ?_) | (with_reducible refine BlkP.Blk.otherAt ?_ (by first | omega | (simp; done) | (simp; omega))) | (with_reducible refine BlkP.Blk.newA' (by first | omega | (simp; done) | (simp; omega)) rfl) | (with_reducible refine BlkP.Blk.alloc ?_ _) | (exact rfl))), hR.below (by (repeat' (first | (with_reducible exact Below.refl _ _) | (with_reducible refine Below.setCell ?_ (by (first | omega | (simp; done) | (simp; omega))) _) | (with_reducible refine Below.alloc ?_ (by (first | omega | (simp; done) | (simp; omega))) _) | (with_reducible refine Below.drew ?_) | (with_reducible refine below_drewN ?_ _)))), hQ.below (by (repeat' (first | (with_reducible exact Below.refl _ _) | (with_reducible refine Below.setCell ?_ (by (first | omega | (simp; done) | (simp; omega))) _) | (with_reducible refine Below.alloc ?_ (by (first | omega | (simp; done) | (simp; omega))) _) | (with_reducible refine Below.drew ?_) | (with_reducible refine below_drewN ?_ _))))⟩ ?_
          clear hHeld hN hR hQ
          rintro v4 ⟨hHeld, hA, hN, hR, hQ⟩
          have hSv4 := hHeld.size
          refine wpAnyH_ready (rs := [6]) (by kernel_rfl) (by simp) ?_
          refine AllReadyH.cons (o := ⟨none, _, _, _, _, _⟩) rfl (fun K hK => ?_) ?_
          · have e0 := hA.cell (i := 0) (v := .slice none 0 0) rfl
            have f0 := hA.frozen 0
            have e1 := hA.cell (i := 1) (v := .int .i64 0) rfl
            have f1 := hA.frozen 1
            have e2 := hA.cell (i := 2) (v := .int .i64 0) rfl
            have f2 := hA.frozen 2
            have lA := hA.lt
            have lN := hN.lt
            go_simp
            refine hK.out _ _ (by (repeat' (first | (with_reducible exact Below.refl _ _) | (with_reducible refine Below.setCell ?_ (by (first | omega | (simp; done) | (simp; omega))) _) | (with_reducible refine Below.alloc ?_ (by (first | omega | (simp; done) | (simp; omega))) _) | (with_reducible refine Below.drew ?_) | (with_reducible refine below_drewN ?_ _) | (with_reducible refine Below.trans ?_ (Below.mono hHeld (by (first | omega | (simp; done) | (simp; omega)))))))) (fun hHeld => ?_)
            clear hK K
            clear e0 e1 e2 f0 f1 f2
            refine any_named (fun W => Below W0.heap.size W0 W ∧ Blk W v3.heap.size TD [.slice AR k cR, .int .i64 0, .int .i64 0] ∧ Blk W v0.heap.size TD [.slice none 0 0, .int .i64 0, .int .i64 0] ∧ RowG.Own encX TX W W0.heap.size (.slice AR k cR) l ∧ RowG.Own encX TX W W0.heap.size (.slice AQ k cQ) l) ⟨hHeld, by (repeat' (first | (with_reducible exact hA) | (with_reducible refine BlkP.Blk.drew ?_) | (with_reducible refine BlkP.Blk.drewN ?_ _) | (with_reducible refine BlkP.Blk.setAt (us := ?_) (by first | omega | (simp; done) | (simp; omega)) rfl ?_ ?_) | (with_reducible refine BlkP.Blk.otherAt ?_ (by first | omega | (simp; done) | (simp; omega))) | (with_reducible refine BlkP.Blk.newA' (by first | omega | (simp; done) | (simp; omega)) rfl) | (with_reducible refine BlkP.Blk.alloc ?_ _) | (exact rfl))), by (repeat' (first | (with_reducible exact hN) | (with_reducible refine BlkP.Blk.drew ?_) | (with_reducible refine BlkP.Blk.drewN ?_ _) | (with_reducible refine BlkP.Blk.setAt (us := ?_) (by first | omega | (simp; done) | (simp; omega)) rfl ?_ ?_) | (with_reducible refine BlkP.Blk.otherAt ?_ (by first | omega | (simp; done) | (simp; omega))) | (with_reducible refine BlkP.Blk.newA' (by first | omega | (simp; done) | (simp; omega)) rfl) | (with_reducible refine BlkP.Blk.alloc ?_ _) | (exact rfl))), by first | exact own_set3 hR hA | exact own_set3 hR.drew hA.drew, by first | exact own_set3 hQ hA | exact own_set3 hQ.drew hA.drew⟩ ?_
            clear hHeld hA hN hR hQ
            rintro v5 ⟨hHeld, hA, hN, hR, hQ⟩
            have hSv5 := hHeld.size
            refine wpAnyH_ready (rs := [7]) (by kernel_rfl) (by simp) ?_
            refine AllReadyH.cons (o := ⟨none, _, _, _, _, _⟩) rfl (fun K hK => ?_) ?_
            · have e0 := hN.cell (i := 0) (v := .slice none 0 0) rfl
              have f0 := hN.frozen 0
              have e1 := hN.cell (i := 1) (v := .int .i64 0) rfl
              have f1 := hN.frozen 1
              have e2 := hN.cell (i := 2) (v := .int .i64 0) rfl
              have f2 := hN.frozen 2
              have lA := hA.lt
              have lN := hN.lt
              go_simp
              refine hK.out _ _ (by (repeat' (first | (with_reducible exact Below.refl _ _) | (with_reducible refine Below.setCell ?_ (by (first | omega | (simp; done) | (simp; omega))) _) | (with_reducible refine Below.alloc ?_ (by (first | omega | (simp; done) | (simp; omega))) _) | (with_reducible refine Below.drew ?_) | (with_reducible refine below_drewN ?_ _) | (with_reducible refine Below.trans ?_ (Below.mono hHeld (by (first | omega | (simp; done) | (simp; omega)))))))) (fun hHeld => ?_)
              clear hK K
              clear e0 e1 e2 f0 f1 f2
              refine any_named (fun W => Below W0.heap.size W0 W ∧ Blk W v3.heap.size TD [.slice AR k cR, .int .i64 0, .int .i64 0] ∧ Blk W v0.heap.size TD [.slice AQ k cQ, .int .i64 0, .int .i64 0] ∧ RowG.Own encX TX W W0.heap.size (.slice AR k cR) l ∧ RowG.Own encX TX W W0.heap.size (.slice AQ k cQ) l) ⟨hHeld, by (repeat' (first | (with_reducible exact hA) | (with_reducible refine BlkP.Blk.drew ?_) | (with_reducible refine BlkP.Blk.drewN ?_ _) | (with_reducible refine BlkP.Blk.setAt (us := ?_) (by first | omega | (simp; done) | (simp; omega)) rfl ?_ ?_) | (with_reducible refine BlkP.Blk.otherAt ?_ (by first | omega | (simp; done) | (simp; omega))) | (with_reducible refine BlkP.Blk.newA' (by first | omega | (simp; done) | (simp; omega)) rfl) | (with_reducible refine BlkP.Blk.alloc ?_ _) | (exact rfl))), by (repeat' (first | (with_reducible exact hN) | (with_reducible refine BlkP.Blk.drew ?_) | (with_reducible refine BlkP.Blk.drewN ?_ _) | (with_reducible refine BlkP.Blk.setAt (us := ?_) (by first | omega | (simp; done) | (simp; omega)) rfl ?_ ?_) | (with_reducible refine BlkP.Blk.otherAt ?_ (by first | omega | (simp; done) | (simp; omega))) | (with_reducible refine BlkP.Blk.newA' (by first | omega | (simp; done) | (simp; omega)) rfl) | (with_reducible refine BlkP.Blk.alloc ?_ _) | (exact rfl))), by first | exact own_set3 hR hN | exact own_set3 hR.drew hN.drew, by first | exact own_set3 hQ hN | exact own_set3 hQ.drew hN.drew⟩ ?_
              clear hHeld hA hN hR hQ
              rintro v6 ⟨hHeld, hA, hN, hR, hQ⟩
              have hSv6 := hHeld.size
              refine wpAnyH_done (by kernel_rfl) ?_ _
              refine NoPanic.normal ?_
              have a0 := hA.cell (i := 0) rfl
              have a1 := hA.cell (i := 1) rfl
              have a2 := hA.cell (i := 2) rfl
              have b0 := hN.cell (i := 0) rfl
              have b1 := hN.cell (i := 1) rfl
              have b2 := hN.cell (i := 2) rfl
              have HBE := Lib.hid (below_t HB0.out hHeld)
              have HRE := Lib.hid hR.rd
              have HQE := Lib.hid hQ.rd
              clear hA hN hR hQ hHeld
              go_wp2_with fail
              refine (same_c HRE.out HQE.out HK.out HK4.out).mono ?_
              rintro e x1 ⟨rfl, hbx⟩
              have HX1 := Lib.hid (below_t HBE.out hbx)
              clear hbx a0 a1 a2 b0 b1 b2
              go_wp2_with fail
              refine (works_c (HT.out.below HX1.out)).mono ?_
              rintro e x2 ⟨rfl, hbx⟩
              have HX2 := Lib.hid (below_t HX1.out hbx)
              clear hbx
              go_wp2_with fail
              go_ret
              exact ⟨rfl, HX2.out⟩
            exact AllReadyH.nil
          exact AllReadyH.nil
        exact AllReadyH.nil
      refine AllReadyH.cons (o := ⟨some 12, _, _, _, _, _⟩) rfl (fun K hK => ?_) ?_
      · go_simp
        refine hK.out _ _ (hHeld.alloc hHeld.size _) (fun hHeld => ?_)
        clear hK K
        have lN := hN.lt
        refine any_named (fun W => Below W0.heap.size W0 W ∧ Blk W v2.heap.size TD [.slice none 0 0, .int .i64 0, .int .i64 0] ∧ Blk W v0.heap.size TD [.slice none 0 0, .int .i64 0, .int .i64 0] ∧ RowG.Own encX TX W W0.heap.size (.slice AR k cR) l) ⟨hHeld, by (repeat' (first | (with_reducible refine BlkP.Blk.drew ?_) | (with_reducible refine BlkP.Blk.drewN ?_ _) | (with_reducible refine BlkP.Blk.setAt (us := ?_) (by first | omega | (simp; done) | (simp; omega)) rfl ?_ ?_) | (with_reducible refine BlkP.Blk.otherAt ?_ (by first | omega | (simp; done) | (simp; omega))) | (with_reducible refine BlkP.Blk.newA' (by first | omega | (simp; done) | (simp; omega)) rfl) | (with_reducible refine BlkP.Blk.alloc ?_ _) | (exact rfl))), by (repeat' (first | (with_reducible exact hN) | (with_reducible refine BlkP.Blk.drew ?_) | (with_reducible refine BlkP.Blk.drewN ?_ _) | (with_reducible refine BlkP.Blk.setAt (us := ?_) (by first | omega | (simp; done) | (simp; omega)) rfl ?_ ?_) | (with_reducible refine BlkP.Blk.otherAt ?_ (by first | omega | (simp; done) | (simp; omega))) | (with_reducible refine BlkP.Blk.newA' (by first | omega | (simp; done) | (simp; omega)) rfl) | (with_reducible refine BlkP.Blk.alloc ?_ _) | (exact rfl))), hR.below (by (repeat' (first | (with_reducible exact Below.refl _ _) | (with_reducible refine Below.setCell ?_ (by (first | omega | (simp; done) | (simp; omega))) _) | (with_reducible refine Below.alloc ?_ (by (first | omega | (simp; done) | (simp; omega))) _) | (with_reducible refine Below.drew ?_) | (with_reducible refine below_drewN ?_ _))))⟩ ?_
        clear hHeld hN hR
        rintro v3 ⟨hHeld, hA, hN, hR⟩
        have hSv3 := hHeld.size
        refine wpAnyH_ready (rs := [3]) (by kernel_rfl) (by simp) ?_
        refine AllReadyH.cons (o := ⟨some 32, _, _, _, _, _⟩) rfl (fun K hK => ?_) ?_
        · have hHeld0 := hHeld.size
          go_simp
          refine (Next_c (n := m) (HT.out.below (below_t HB0.out hHeld))).mono ?_
          rintro e wf ⟨vf, rfl, hof, hbf⟩
          rw [HDM.out, HL.out] at hof
          obtain ⟨AQ, cQ, rfl, _, _, _⟩ := hof.form HK.out
          go_wp2_with fail
          refine hK.out _ _ (below_t hHeld hbf) (fun hHeld => ?_)
          clear hK K
          refine any_named (fun W => Below W0.heap.size W0 W ∧ Blk W v2.heap.size TD [.slice none 0 0, .int .i64 0, .int .i64 0] ∧ Blk W v0.heap.size TD [.slice none 0 0, .int .i64 0, .int .i64 0] ∧ RowG.Own encX TX W W0.heap.size (.slice AR k cR) l ∧ RowG.Own encX TX W W0.heap.size (.slice AQ k cQ) l) ⟨hHeld, hA.below hbf, hN.below hbf, hR.below hbf, hof.mono (show W0.heap.size ≤ _ from hHeld0)⟩ ?_
          clear hHeld hA hN hR
          rintro v4 ⟨hHeld, hA, hN, hR, hQ⟩
          have hSv4 := hHeld.size
          clear hof hbf
          refine wpAnyH_ready (rs := [6]) (by kernel_rfl) (by simp) ?_
          refine AllReadyH.cons (o := ⟨none, _, _, _, _, _⟩) rfl (fun K hK => ?_) ?_
          · have e0 := hA.cell (i := 0) (v := .slice none 0 0) rfl
            have f0 := hA.frozen 0
            have e1 := hA.cell (i := 1) (v := .int .i64 0) rfl
            have f1 := hA.frozen 1
            have e2 := hA.cell (i := 2) (v := .int .i64 0) rfl
            have f2 := hA.frozen 2
            have lA := hA.lt
            have lN := hN.lt
            go_simp
            refine hK.out _ _ (by (repeat' (first | (with_reducible exact Below.refl _ _) | (with_reducible refine Below.setCell ?_ (by (first | omega | (simp; done) | (simp; omega))) _) | (with_reducible refine Below.alloc ?_ (by (first | omega | (simp; done) | (simp; omega))) _) | (with_reducible refine Below.drew ?_) | (with_reducible refine below_drewN ?_ _) | (with_reducible refine Below.trans ?_ (Below.mono hHeld (by (first | omega | (simp; done) | (simp; omega)))))))) (fun hHeld => ?_)
            clear hK K
            clear e0 e1 e2 f0 f1 f2
            refine any_named (fun W => Below W0.heap.size W0 W ∧ Blk W v2.heap.size TD [.slice AR k cR, .int .i64 0, .int .i64 0] ∧ Blk W v0.heap.size TD [.slice none 0 0, .int .i64 0, .int .i64 0] ∧ RowG.Own encX TX W W0.heap.size (.slice AR k cR) l ∧ RowG.Own encX TX W W0.heap.size (.slice AQ k cQ) l) ⟨hHeld, by (repeat' (first | (with_reducible exact hA) | (with_reducible refine BlkP.Blk.drew ?_) | (with_reducible refine BlkP.Blk.drewN ?_ _) | (with_reducible refine BlkP.Blk.setAt (us := ?_) (by first | omega | (simp; done) | (simp; omega)) rfl ?_ ?_) | (with_reducible refine BlkP.Blk.otherAt ?_ (by first | omega | (simp; done) | (simp; omega))) | (with_reducible refine BlkP.Blk.newA' (by first | omega | (simp; done) | (simp; omega)) rfl) | (with_reducible refine BlkP.Blk.alloc ?_ _) | (exact rfl))), by (repeat' (first | (with_reducible exact hN) | (with_reducible refine BlkP.Blk.drew ?_) | (with_reducible refine BlkP.Blk.drewN ?_ _) | (with_reducible refine BlkP.Blk.setAt (us := ?_) (by first | omega | (simp; done) | (simp; omega)) rfl ?_ ?_) | (with_reducible refine BlkP.Blk.otherAt ?_ (by first | omega | (simp; done) | (simp; omega))) | (with_reducible refine BlkP.Blk.newA' (by first | omega | (simp; done) | (simp; omega)) rfl) | (with_reducible refine BlkP.Blk.alloc ?_ _) | (exact rfl))), by first | exact own_set3 hR hA | exact own_set3 hR.drew hA.drew, by first | exact own_set3 hQ hA | exact own_set3 hQ.drew hA.drew⟩ ?_
            clear hHeld hA hN hR hQ
            rintro v5 ⟨hHeld, hA, hN, hR, hQ⟩
            have hSv5 := hHeld.size
            refine wpAnyH_ready (rs := [7]) (by kernel_rfl) (by simp) ?_
            refine AllReadyH.cons (o := ⟨none, _, _, _, _, _⟩) rfl (fun K hK => ?_) ?_
            · have e0 := hN.cell (i := 0) (v := .slice none 0 0) rfl
              have f0 := hN.frozen 0
              have e1 := hN.cell (i := 1) (v := .int .i64 0) rfl
              have f1 := hN.frozen 1
              have e2 := hN.cell (i := 2) (v := .int .i64 0) rfl
              have f2 := hN.frozen 2
              have lA := hA.lt
              have lN := hN.lt
              go_simp
              refine hK.out _ _ (by (repeat' (first | (with_reducible exact Below.refl _ _) | (with_reducible refine Below.setCell ?_ (by (first | omega | (simp; done) | (simp; omega))) _) | (with_reducible refine Below.alloc ?_ (by (first | omega | (simp; done) | (simp; omega))) _) | (with_reducible refine Below.drew ?_) | (with_reducible refine below_drewN ?_ _) | (with_reducible refine Below.trans ?_ (Below.mono hHeld (by (first | omega | (simp; done) | (simp; omega)))))))) (fun hHeld => ?_)
              clear hK K
              clear e0 e1 e2 f0 f1 f2
              refine any_named (fun W => Below W0.heap.size W0 W ∧ Blk W v2.heap.size TD [.slice AR k cR, .int .i64 0, .int .i64 0] ∧ Blk W v0.heap.size TD [.slice AQ k cQ, .int .i64 0, .int .i64 0] ∧ RowG.Own encX TX W W0.heap.size (.slice AR k cR) l ∧ RowG.Own encX TX W W0.heap.size (.slice AQ k cQ) l) ⟨hHeld, by (repeat' (first | (with_reducible exact hA) | (with_reducible refine BlkP.Blk.drew ?_) | (with_reducible refine BlkP.Blk.drewN ?_ _) | (with_reducible refine BlkP.Blk.setAt (us := ?_) (by first | omega | (simp; done) | (simp; omega)) rfl ?_ ?_) | (with_reducible refine BlkP.Blk.otherAt ?_ (by first | omega | (simp; done) | (simp; omega))) | (with_reducible refine BlkP.Blk.newA' (by first | omega | (simp; done) | (simp; omega)) rfl) | (with_reducible refine BlkP.Blk.alloc ?_ _) | (exact rfl))), by (repeat' (first | (with_reducible exact hN) | (with_reducible refine BlkP.Blk.drew ?_) | (with_reducible refine BlkP.Blk.drewN ?_ _) | (with_reducible refine BlkP.Blk.setAt (us := ?_) (by first | omega | (simp; done) | (simp; omega)) rfl ?_ ?_) | (with_reducible refine BlkP.Blk.otherAt ?_ (by first | omega | (simp; done) | (simp; omega))) | (with_reducible refine BlkP.Blk.newA' (by first | omega | (simp; done) | (simp; omega)) rfl) | (with_reducible refine BlkP.Blk.alloc ?_ _) | (exact rfl))), by first | exact own_set3 hR hN | exact own_set3 hR.drew hN.drew, by first | exact own_set3 hQ hN | exact own_set3 hQ.drew hN.drew⟩ ?_
              clear hHeld hA hN hR hQ
              rintro v6 ⟨hHeld, hA, hN, hR, hQ⟩
              have hSv6 := hHeld.size
              refine wpAnyH_done (by kernel_rfl) ?_ _
              refine NoPanic.normal ?_
              have a0 := hA.cell (i := 0) rfl
              have a1 := hA.cell (i := 1) rfl
              have a2 := hA.cell (i := 2) rfl
              have b0 := hN.cell (i := 0) rfl
              have b1 := hN.cell (i := 1) rfl
              have b2 := hN.cell (i := 2) rfl
              have HBE := Lib.hid (below_t HB0.out hHeld)
              have HRE := Lib.hid hR.rd
              have HQE := Lib.hid hQ.rd
              clear hA hN hR hQ hHeld
              go_wp2_with fail
              refine (same_c HRE.out HQE.out HK.out HK4.out).mono ?_
              rintro e x1 ⟨rfl, hbx⟩
              have HX1 := Lib.hid (below_t HBE.out hbx)
              clear hbx a0 a1 a2 b0 b1 b2
              go_wp2_with fail
              refine (works_c (HT.out.below HX1.out)).mono ?_
              rintro e x2 ⟨rfl, hbx⟩
              have HX2 := Lib.hid (below_t HX1.out hbx)
              clear hbx
              go_wp2_with fail
              go_ret
              exact ⟨rfl, HX2.out⟩
            exact AllReadyH.nil
          exact AllReadyH.nil
        exact AllReadyH.nil
      exact AllReadyH.nil
    refine AllReadyH.cons (o := ⟨some 12, _, _, _, _, _⟩) rfl (fun K hK => ?_) ?_
    · go_simp
      refine hK.out _ _ (hHeld.alloc hHeld.size _) (fun hHeld => ?_)
      clear hK K
      have lN := hN.lt
      refine any_named (fun W => Below W0.heap.size W0 W ∧ Blk W v1.heap.size TD [.slice none 0 0, .int .i64 0, .int .i64 0] ∧ Blk W v0.heap.size TD [.slice none 0 0, .int .i64 0, .int .i64 0]) ⟨hHeld, by (repeat' (first | (with_reducible refine BlkP.Blk.drew ?_) | (with_reducible refine BlkP.Blk.drewN ?_ _) | (with_reducible refine BlkP.Blk.setAt (us := ?_) (by first | omega | (simp; done) | (simp; omega)) rfl ?_ ?_) | (with_reducible refine BlkP.Blk.otherAt ?_ (by first | omega | (simp; done) | (simp; omega))) | (with_reducible refine BlkP.Blk.newA' (by first | omega | (simp; done) | (simp; omega)) rfl) | (with_reducible refine BlkP.Blk.alloc ?_ _) | (exact rfl))), by (repeat' (first | (with_reducible exact hN) | (with_reducible refine BlkP.Blk.drew ?_) | (with_reducible refine BlkP.Blk.drewN ?_ _) | (with_reducible refine BlkP.Blk.setAt (us := ?_) (by first | omega | (simp; done) | (simp; omega)) rfl ?_ ?_) | (with_reducible refine BlkP.Blk.otherAt ?_ (by first | omega | (simp; done) | (simp; omega))) | (with_reducible refine BlkP.Blk.newA' (by first | omega | (simp; done) | (simp; omega)) rfl) | (with_reducible refine BlkP.Blk.alloc ?_ _) | (exact rfl)))⟩ ?_
      clear hHeld hN
      rintro v2 ⟨hHeld, hA, hN⟩
      have hSv2 := hHeld.size
      refine wpAnyH_ready (rs := [1]) (by kernel_rfl) (by simp) ?_
      refine AllReadyH.cons (o := ⟨some 30, _, _, _, _, _⟩) rfl (fun K hK => ?_) ?_
      · have hHeld0 := hHeld.size
        go_simp
        refine (Next_c (n := n) (HT.out.below (below_t HB0.out hHeld))).mono ?_
        rintro e wf ⟨vf, rfl, hof, hbf⟩
        rw [HL.out] at hof
        obtain ⟨AR, cR, rfl, _, _, _⟩ := hof.form HK.out
        go_wp2_with fail
        refine hK.out _ _ (below_t hHeld hbf) (fun hHeld => ?_)
        clear hK K
        refine any_named (fun W => Below W0.heap.size W0 W ∧ Blk W v1.heap.size TD [.slice none 0 0, .int .i64 0, .int .i64 0] ∧ Blk W v0.heap.size TD [.slice none 0 0, .int .i64 0, .int .i64 0] ∧ RowG.Own encX TX W W0.heap.size (.slice AR k cR) l) ⟨hHeld, hA.below hbf, hN.below hbf, hof.mono (show W0.heap.size ≤ _ from hHeld0)⟩ ?_
        clear hHeld hA hN
        rintro v3 ⟨hHeld, hA, hN, hR⟩
        have hSv3 := hHeld.size
        clear hof hbf
        refine wpAnyH_ready (rs := [3]) (by kernel_rfl) (by simp) ?_
        refine AllReadyH.cons (o := ⟨some 32, _, _, _, _, _⟩) rfl (fun K hK => ?_) ?_
        · have hHeld0 := hHeld.size
          go_simp
          refine (Next_c (n := m) (HT.out.below (below_t HB0.out hHeld))).mono ?_
          rintro e wf ⟨vf, rfl, hof, hbf⟩
          rw [HDM.out, HL.out] at hof
          obtain ⟨AQ, cQ, rfl, _, _, _⟩ := hof.form HK.out
          go_wp2_with fail
          refine hK.out _ _ (below_t hHeld hbf) (fun hHeld => ?_)
          clear hK K
          refine any_named (fun W => Below W0.heap.size W0 W ∧ Blk W v1.heap.size TD [.slice none 0 0, .int .i64 0, .int .i64 0] ∧ Blk W v0.heap.size TD [.slice none 0 0, .int .i64 0, .int .i64 0] ∧ RowG.Own encX TX W W0.heap.size (.slice AR k cR) l ∧ RowG.Own encX TX W W0.heap.size (.slice AQ k cQ) l) ⟨hHeld, hA.below hbf, hN.below hbf, hR.below hbf, hof.mono (show W0.heap.size ≤ _ from hHeld0)⟩ ?_
          clear hHeld hA hN hR
          rintro v4 ⟨hHeld, hA, hN, hR, hQ⟩
          have hSv4 := hHeld.size
          clear hof hbf
          refine wpAnyH_ready (rs := [6]) (by kernel_rfl) (by simp) ?_
          refine AllReadyH.cons (o := ⟨none, _, _, _, _, _⟩) rfl (fun K hK => ?_) ?_
          · have e0 := hA.cell (i := 0) (v := .slice none 0 0) rfl
            have f0 := hA.frozen 0
            have e1 := hA.cell (i := 1) (v := .int .i64 0) rfl
            have f1 := hA.frozen 1
            have e2 := hA.cell (i := 2) (v := .int .i64 0) rfl
            have f2 := hA.frozen 2
            have lA := hA.lt
            have lN := hN.lt
            go_simp
            refine hK.out _ _ (by (repeat' (first | (with_reducible exact Below.refl _ _) | (with_reducible refine Below.setCell ?_ (by (first | omega | (simp; done) | (simp; omega))) _) | (with_reducible refine Below.alloc ?_ (by (first | omega | (simp; done) | (simp; omega))) _) | (with_reducible refine Below.drew ?_) | (with_reducible refine below_drewN ?_ _) | (with_reducible refine Below.trans ?_ (Below.mono hHeld (by (first | omega | (simp; done) | (simp; omega)))))))) (fun hHeld => ?_)
            clear hK K
            clear e0 e1 e2 f0 f1 f2
            refine any_named (fun W => Below W0.heap.size W0 W ∧ Blk W v1.heap.size TD [.slice AR k cR, .int .i64 0, .int .i64 0] ∧ Blk W v0.heap.size TD [.slice none 0 0, .int .i64 0, .int .i64 0] ∧ RowG.Own encX TX W W0.heap.size (.slice AR k cR) l ∧ RowG.Own encX TX W W0.heap.size (.slice AQ k cQ) l) ⟨hHeld, by (repeat' (first | (with_reducible exact hA) | (with_reducible refine BlkP.Blk.drew ?_) | (with_reducible refine BlkP.Blk.drewN ?_ _) | (with_reducible refine BlkP.Blk.setAt (us := ?_) (by first | omega | (simp; done) | (simp; omega)) rfl ?_ ?_) | (with_reducible refine BlkP.Blk.otherAt ?_ (by first | omega | (simp; done) | (simp; omega))) | (with_reducible refine BlkP.Blk.newA' (by first | omega | (simp; done) | (simp; omega)) rfl) | (with_reducible refine BlkP.Blk.alloc ?_ _) | (exact rfl))), by (repeat' (first | (with_reducible exact hN) | (with_reducible refine BlkP.Blk.drew ?_) | (with_reducible refine BlkP.Blk.drewN ?_ _) | (with_reducible refine BlkP.Blk.setAt (us := ?_) (by first | omega | (simp; done) | (simp; omega)) rfl ?_ ?_) | (with_reducible refine BlkP.Blk.otherAt ?_ (by first | omega | (simp; done) | (simp; omega))) | (with_reducible refine BlkP.Blk.newA' (by first | omega | (simp; done) | (simp; omega)) rfl) | (with_reducible refine BlkP.Blk.alloc ?_ _) | (exact rfl))), by first | exact own_set3 hR hA | exact own_set3 hR.drew hA.drew, by first | exact own_set3 hQ hA | exact own_set3 hQ.drew hA.drew⟩ ?_
            clear hHeld hA hN hR hQ
            rintro v5 ⟨hHeld, hA, hN, hR, hQ⟩
            have hSv5 := hHeld.size
            refine wpAnyH_ready (rs := [7]) (by kernel_rfl) (by simp) ?_
            refine AllReadyH.cons (o := ⟨none, _, _, _, _, _⟩) rfl (fun K hK => ?_) ?_
            · have e0 := hN.cell (i := 0) (v := .slice none 0 0) rfl
              have f0 := hN.frozen 0
              have e1 := hN.cell (i := 1) (v := .int .i64 0) rfl
              have f1 := hN.frozen 1
              have e2 := hN.cell (i := 2) (v := .int .i64 0) rfl
              have f2 := hN.frozen 2
              have lA := hA.lt
              have lN := hN.lt
              go_simp
              refine hK.out _ _ (by (repeat' (first | (with_reducible exact Below.refl _ _) | (with_reducible refine Below.setCell ?_ (by (first | omega | (simp; done) | (simp; omega))) _) | (with_reducible refine Below.alloc ?_ (by (first | omega | (simp; done) | (simp; omega))) _) | (with_reducible refine Below.drew ?_) | (with_reducible refine below_drewN ?_ _) | (with_reducible refine Below.trans ?_ (Below.mono hHeld (by (first | omega | (simp; done) | (simp; omega)))))))) (fun hHeld => ?_)
              clear hK K
              clear e0 e1 e2 f0 f1 f2
              refine any_named (fun W => Below W0.heap.size W0 W ∧ Blk W v1.heap.size TD [.slice AR k cR, .int .i64 0, .int .i64 0] ∧ Blk W v0.heap.size TD [.slice AQ k cQ, .int .i64 0, .int .i64 0] ∧ RowG.Own encX TX W W0.heap.size (.slice AR k cR) l ∧ RowG.Own encX TX W W0.heap.size (.slice AQ k cQ) l) ⟨hHeld, by (repeat' (first | (with_reducible exact hA) | (with_reducible refine BlkP.Blk.drew ?_) | (with_reducible refine BlkP.Blk.drewN ?_ _) | (with_reducible refine BlkP.Blk.setAt (us := ?_) (by first | omega | (simp; done) | (simp; omega)) rfl ?_ ?_) | (with_reducible refine BlkP.Blk.otherAt ?_ (by first | omega | (simp; done) | (simp; omega))) | (with_reducible refine BlkP.Blk.newA' (by first | omega | (simp; done) | (simp; omega)) rfl) | (with_reducible refine BlkP.Blk.alloc ?_ _) | (exact rfl))), by (repeat' (first | (with_reducible exact hN) | (with_reducible refine BlkP.Blk.drew ?_) | (with_reducible refine BlkP.Blk.drewN ?_ _) | (with_reducible refine BlkP.Blk.setAt (us := ?_) (by first | omega | (simp; done) | (simp; omega)) rfl ?_ ?_) | (with_reducible refine BlkP.Blk.otherAt ?_ (by first | omega | (simp; done) | (simp; omega))) | (with_reducible refine BlkP.Blk.newA' (by first | omega | (simp; done) | (simp; omega)) rfl) | (with_reducible refine BlkP.Blk.alloc ?_ _) | (exact rfl))), by first | exact own_set3 hR hN | exact own_set3 hR.drew hN.drew, by first | exact own_set3 hQ hN | exact own_set3 hQ.drew hN.drew⟩ ?_
              clear hHeld hA hN hR hQ
              rintro v6 ⟨hHeld, hA, hN, hR, hQ⟩
              have hSv6 := hHeld.size
              refine wpAnyH_done (by kernel_rfl) ?_ _
              refine NoPanic.normal ?_
              have a0 := hA.cell (i := 0) rfl
              have a1 := hA.cell (i := 1) rfl
              have a2 := hA.cell (i := 2) rfl
              have b0 := hN.cell (i := 0) rfl
              have b1 := hN.cell (i := 1) rfl
              have b2 := hN.cell (i := 2) rfl
              have HBE := Lib.hid (below_t HB0.out hHeld)
              have HRE := Lib.hid hR.rd
              have HQE := Lib.hid hQ.rd
              clear hA hN hR hQ hHeld
              go_wp2_with fail
              refine (same_c HRE.out HQE.out HK.out HK4.out).mono ?_
              rintro e x1 ⟨rfl, hbx⟩
              have HX1 := Lib.hid (below_t HBE.out hbx)
              clear hbx a0 a1 a2 b0 b1 b2
              go_wp2_with fail
              refine (works_c (HT.out.below HX1.out)).mono ?_
              rintro e x2 ⟨rfl, hbx⟩
              have HX2 := Lib.hid (below_t HX1.out hbx)
              clear hbx
              go_wp2_with fail
              go_ret
              exact ⟨rfl, HX2.out⟩
            exact AllReadyH.nil
          exact AllReadyH.nil
        exact AllReadyH.nil
      exact AllReadyH.nil
    exact AllReadyH.nil
  exact AllReadyH.nil
end FlowW
end Go.Proofs.YtjdoglihebfamaaDoor
