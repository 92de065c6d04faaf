/-
  Next: where water goes; the closure that gathers its changes.
-/
import Derived.Test.YtlahkmkipciiiaaDoorFlowWant
namespace Go.Proofs.YtlahkmkipciiiaaDoor
open Go.RowKit
set_option linter.unusedVariables false
set_option linter.unusedSimpArgs false
namespace FlowW
open BlkP RowG FrS PushG FlowP
theorem grown_set (w : World) (g i : Nat) (v : Value) : w.grownBy (w.setCell ⟨g, i, none⟩ v) (some g) := ⟨rfl, rfl, rfl, by simp, fun k _ hne => heap_setCell_other w ⟨g, i, none⟩ k v (fun e => hne (by rw [e]))⟩
theorem own_ne {w : World} {B b : Nat} {v : Value} {l : List (Nat × Cl)} {T : TypeId} {us : List Value} (h : RowG.Own encX TX w B v l) (hb : Blk w b T us) (hT : T ≠ TX) : v.ownBlock ≠ some b := fun e => by
  unfold RowG.Own at h
  rcases h.2 with ⟨rfl, _⟩ | ⟨g', cap, cur, rfl, _, hgg, _⟩
  · cases e
  · obtain rfl : g' = b := by simpa [Value.ownBlock] using e
    have := hgg.symm.trans hb
    injection this with this
    injection this with _ h2
    exact hT h2.symm
/-- The deed that is gathered: its block, its row. -/
def Dd (w : World) (D B : Nat) (v : Value) (l : List (Nat × Cl)) : Prop := Blk w D TD [v, .int .i64 0, .int .i64 0] ∧ RowG.Own encX TX w B v l
theorem Dd.below {w w' : World} {D B : Nat} {v : Value} {l : List (Nat × Cl)} (h : Dd w D B v l) (hb : Below w.heap.size w w') : Dd w' D B v l := ⟨h.1.below hb, h.2.below hb⟩
section
variable {w0 : World} {ops : Array Oper} {rest : List Oper} {o : Oper} {a : Act} {Q : Exit → Act → World → Prop} {W : World}
theorem wp_pushX (hgd : o.guard = none) (s x : Operand) (ho : o.op = .call { callee := .builtin .append, args := #[s, x], argTypes := #[TXS, TXS] }) {B : Nat} {v : Value} {l : List (Nat × Cl)} {y : Nat × Cl} {n : Nat}
    (hW : W = w0.alloc (.cells #[.int .i64 (y.1 : Int), .int .u8 (y.2.1 : Int), .int .u8 (y.2.2 : Int)] TX)) (hs : a.eval s = v) (hown : RowG.Own encX TX w0 B v l) {g0 : Nat} (hx : a.eval x = .slice (some ⟨g0, 0, none⟩) 1 1) (hg0 : g0 = w0.heap.size) (hn : l.length = n) (hl : n ≤ 1000000) (hB : B ≤ w0.heap.size)
    (h : ∀ g c w', Pushed encX TX w0 B v l y (n + 1) g c w' → wpList Tryd.prog ops Q rest (a.put o.dst (.slice (some ⟨g, 0, none⟩) (n + 1) c)) w') : wpList Tryd.prog ops Q (o :: rest) a W := by
  subst hW hn hg0
  refine wpList_plain hgd fun K hK => ?_
  obtain ⟨g, cp, w', hr, h2, h3, h4⟩ := run_pushG encX underXS infoX rfl (by decide) (by decide) (y := y) (c := #[.int .i64 (y.1 : Int), .int .u8 (y.2.1 : Int), .int .u8 (y.2.2 : Int)]) rfl hown hl hB o.type
  unfold Oper.wp execOp
  simp only [ho, resolve, invoke, builtin, Sem.run_bind, Sem.run_pure, Result.andThen_ok, List.map_toArray, List.map_cons, List.map_nil, hs, hx, hr]
  refine hK _ _ (h g cp w' ⟨h2, h3, ?_⟩)
  rcases h4 with q | ⟨g', q, hg⟩
  · exact .inl q.symm
  · have : g = g' := by simpa [Value.ownBlock] using q
    subst this
    exact .inr hg
end
/-- What a change leaves: the row is longer by it. -/
def ChP (w : World) (D B : Nat) (v : Value) (l : List (Nat × Cl)) (w' : World) : Prop := ∃ v', Dd w' D B v' l ∧ Fr (fun k => k = D ∨ v.ownBlock = some k) w w'
set_option maxRecDepth 100000 in
set_option maxHeartbeats 8000000 in
theorem change_c {w : World} {D B : Nat} {v : Value} {l : List (Nat × Cl)} {d k m : Nat} (h : Dd w D B v l) (hl : l.length ≤ 100) (hB : B ≤ w.heap.size) :
    Calls Tryd.prog 38 #[.int .i64 (d : Int), .agg #[.int .u8 (k : Int), .int .u8 (m : Int)], .pointer (some ⟨D, 0, none⟩)] w fun e w' => e = .returned (.tuple #[]) ∧ ChP w D B v (l ++ [(d, (k, m))]) w' := by
  have H := Lib.hid h
  have HB := Lib.hid hB
  obtain ⟨n, hn⟩ : ∃ n, l.length = n := ⟨_, rfl⟩
  obtain ⟨A, c, rfl, _, _, _⟩ := h.2.form hn
  have HN := Lib.hid hn
  have HL := Lib.hid (show n ≤ 100 by omega)
  have hlt := h.1.lt
  have HLT := Lib.hid hlt
  have a0 := h.1.cell (i := 0) rfl
  clear h hl hB hn
  go_enter Tryd.func38, Tryd.ntmps38
  go_wp2_with ((with_reducible refine at_slot 11 ?_); refine Classical.byContradiction (fun hG => ?_))
  refine hG ?_
  clear hG
  refine wp_pushX (w0 := w.alloc (.cells #[.int .u8 (k : Int), .int .u8 (m : Int)] TC)) (y := (d, (k, m))) rfl (.tmp 6) (.tmp 10) rfl rfl rfl (H.out.2.alloc _) rfl (by simp) HN.out (by have := HL.out; omega) (by have := HB.out; simp; omega) ?_
  intro g c2 w2 hpu
  have HBD := Lib.hid (show Blk w2 D TD [.slice A n c, .int .i64 0, .int .i64 0] from (H.out.1.alloc _).grown hpu.2.1 (fun e => own_ne H.out.2 H.out.1 (by decide) e.symm))
  have HPU := Lib.hid hpu
  have f0 := HBD.out.frozen 0
  have e0 := HBD.out.cell (i := 0) rfl
  clear hpu a0 hlt
  go_wp2_with fail
  go_end0
  refine ⟨rfl, .slice (some ⟨g, 0, none⟩) (n + 1) c2, ⟨HBD.out.set 0 _, ?_⟩, ?_⟩
  · have ho := HPU.out.1
    refine ho.grown (r := some D) ?_ (.inr (own_ne ho HBD.out (by decide)))
    exact grown_set w2 D 0 _
  · have h1 : Fr (fun k => k = D ∨ (Value.slice A n c).ownBlock = some k) w (w.alloc (.cells #[.int .u8 (k : Int), .int .u8 (m : Int)] TC)) := Fr.alloc _ _ _
    have h2 : Fr (fun k => k = D ∨ (Value.slice A n c).ownBlock = some k) _ w2 := Fr.grown HPU.out.2.1 (fun i hi => .inr hi)
    have h3 : Fr (fun k => k = D ∨ (Value.slice A n c).ownBlock = some k) w2 (w2.setCell ⟨D, 0, none⟩ (.slice (some ⟨g, 0, none⟩) (n + 1) c2)) := Fr.set _ _ _ _ (.inl rfl)
    exact (h1.trans h2 (fun i hi => .inl hi)).trans h3 (fun i hi => .inl hi)
/-- What a walk that only changes the deed leaves. -/
def SpP (w : World) (D : Nat) (l : List (Nat × Cl)) (w' : World) : Prop := ∃ v', Dd w' D w.heap.size v' l ∧ Fr (fun k => k = D) w w'
theorem goes_step (n : Nr) {j : Nat} (h : soak (n.sd j) = true) : goes n (j + 1) = goes n j ++ [(1 + j, (13, n.s.2 + 1))] := by simp [goes, h]
theorem goes_skip (n : Nr) {j : Nat} (h : soak (n.sd j) = false) : goes n (j + 1) = goes n j := by simp [goes, h]
/-- One more change, on top of those. -/
theorem ch_on {w w1 w2 : World} {D : Nat} {v : Value} {l l2 : List (Nat × Cl)} (h1 : Dd w1 D w.heap.size v l) (h2 : Fr (fun k => k = D) w w1) (h3 : ChP w1 D w.heap.size v l2 w2) : SpP w D l2 w2 := by
  obtain ⟨v', h4, h5⟩ := h3
  refine ⟨v', h4, h2.trans h5 (fun i hi => ?_)⟩
  rcases hi with hi | hi
  · exact .inl hi
  · exact .inr (h1.2.ge i hi).1
set_option maxRecDepth 100000 in
set_option maxHeartbeats 16000000 in
theorem spread_c {w : World} {D : Nat} {n : Nr} (hT : KindW.Tab w) (hTD : tabB ≠ D) (h : Blk w D TD [.slice none 0 0, .int .i64 0, .int .i64 0]) (hw : n.s.2 ≤ 7) :
    Calls Tryd.prog 41 #[nv n, .func (.func 38) #[] #[.pointer (some ⟨D, 0, none⟩)]] w fun e w' => e = .returned (.tuple #[]) ∧ SpP w D (spreadS n) w' := by
  have HT := Lib.hid hT
  have HD := Lib.hid h
  have HW7 := Lib.hid hw
  have hDs := h.lt
  obtain ⟨⟨k5, l5⟩, hc5⟩ : ∃ c, n.sd 5 = c := ⟨_, rfl⟩
  have HC5 := Lib.hid hc5
  clear hT h hc5 hw
  go_enter Tryd.func41, Tryd.ntmps41
  go_wp2_with ((with_reducible refine at_slot 2 ?_); refine Classical.byContradiction (fun hG => ?_))
  refine hG ?_
  clear hG
  refine wp_boxN rfl (.tmp 0) rfl rfl ?_
  intro w1 h1 hb1 hz1
  obtain ⟨s, hs⟩ : ∃ s, w.heap.size = s := ⟨_, rfl⟩
  rw [hs] at h1 hz1
  have HS := Lib.hid hs
  have H1 := Lib.hid h1
  have HB1 := Lib.hid hb1
  have HDS := Lib.hid (show D < s by rw [← hs]; exact hDs)
  have a0 : w1.cell? ⟨s, 12, none⟩ = some (.int .u8 (k5 : Int)) := by
    have q := h1.cell (g_sk n (d := 5) (by omega))
    rw [HC5.out] at q
    exact q
  have a1 : w1.cell? ⟨s, 13, none⟩ = some (.int .u8 (l5 : Int)) := by
    have q := h1.cell (g_sl n (d := 5) (by omega))
    rw [HC5.out] at q
    exact q
  rw [hs]
  clear h1 hb1
  cases hk : KindP.soaks k5 with
  | true =>
    have HSP := Lib.hid (show spreadS n = [(6, (13, 1))] from by simp [spreadS, soak, HC5.out, hk])
    go_wp2_with fail
    refine (soaks_b hk _ (HT.out.below (by (repeat' (first | (with_reducible exact Below.refl _ _) | (with_reducible refine Below.setCell ?_ (by (first | omega | (simp; done) | (simp; omega))) _) | (with_reducible refine Below.alloc ?_ (by (first | omega | (simp; done) | (simp; omega))) _) | (with_reducible refine Below.drew ?_) | (with_reducible refine below_drewN ?_ _) | (with_reducible refine Below.trans ?_ (Below.mono HB1.out (by (first | omega | (simp; done) | (simp; omega)))))))))).mono ?_
    rintro e w2 ⟨rfl, hb2⟩
    have HB2 := Lib.hid (show Below w.heap.size w w2 by (repeat' (first | (with_reducible exact Below.refl _ _) | (with_reducible refine Below.setCell ?_ (by (first | omega | (simp; done) | (simp; omega))) _) | (with_reducible refine Below.alloc ?_ (by (first | omega | (simp; done) | (simp; omega))) _) | (with_reducible refine Below.drew ?_) | (with_reducible refine below_drewN ?_ _) | (with_reducible refine Below.trans ?_ (Below.mono HB1.out (by (first | omega | (simp; done) | (simp; omega))))) | (with_reducible refine Below.trans ?_ (Below.mono hb2 (by (first | omega | (simp; done) | (simp; omega))))))))
    clear hb2 hk a0 a1 hz1
    go_wp2_with fail
    refine water_c.mono ?_
    rintro e w3 ⟨rfl, hb3⟩
    have HB3 := Lib.hid (below_t HB2.out hb3)
    clear hb3
    go_wp2_with fail
    refine (change_c (d := 6) (k := 13) (m := 1) (v := .slice none 0 0) (l := []) (B := w.heap.size) ⟨HD.out.below HB3.out, Own.nil _ _ _ _⟩ (by simp) HB3.out.size).mono ?_
    rintro e w4 ⟨rfl, hch⟩
    have HCH := Lib.hid (ch_on (w := w) ⟨HD.out.below HB3.out, Own.nil _ _ _ _⟩ (Fr.below _ HB3.out) hch)
    clear hch
    go_wp2_with fail
    first | go_end0 | (refine bodyPost_ret (results_none rfl _ _ _) rfl ?_)
    exact ⟨rfl, by rw [HSP.out]; exact HCH.out⟩
  | false =>
    go_wp2_with fail
    refine (soaks_b hk _ (HT.out.below (by (repeat' (first | (with_reducible exact Below.refl _ _) | (with_reducible refine Below.setCell ?_ (by (first | omega | (simp; done) | (simp; omega))) _) | (with_reducible refine Below.alloc ?_ (by (first | omega | (simp; done) | (simp; omega))) _) | (with_reducible refine Below.drew ?_) | (with_reducible refine below_drewN ?_ _) | (with_reducible refine Below.trans ?_ (Below.mono HB1.out (by (first | omega | (simp; done) | (simp; omega)))))))))).mono ?_
    rintro e w2 ⟨rfl, hb2⟩
    have HK := Lib.hid (show soak (n.sd 5) = false by rw [HC5.out]; exact hk)
    have HB2 := Lib.hid (show Below w.heap.size w w2 by (repeat' (first | (with_reducible exact Below.refl _ _) | (with_reducible refine Below.setCell ?_ (by (first | omega | (simp; done) | (simp; omega))) _) | (with_reducible refine Below.alloc ?_ (by (first | omega | (simp; done) | (simp; omega))) _) | (with_reducible refine Below.drew ?_) | (with_reducible refine below_drewN ?_ _) | (with_reducible refine Below.trans ?_ (Below.mono HB1.out (by (first | omega | (simp; done) | (simp; omega))))) | (with_reducible refine Below.trans ?_ (Below.mono hb2 (by (first | omega | (simp; done) | (simp; omega))))))))
    have H2 := Lib.hid (show Blk w2 s TN (vals n) from Blk.below (by (repeat' (first | (with_reducible exact H1.out) | (with_reducible refine BlkP.Blk.drew ?_) | (with_reducible refine BlkP.Blk.drewN ?_ _) | (with_reducible refine BlkP.Blk.setAt (us := ?_) (by first | omega | (simp; done) | (simp; omega)) rfl ?_ ?_) | (with_reducible refine BlkP.Blk.otherAt ?_ (by first | omega | (simp; done) | (simp; omega))) | (with_reducible refine BlkP.Blk.newA' (by first | omega | (simp; done) | (simp; omega)) rfl) | (with_reducible refine BlkP.Blk.alloc ?_ _) | (exact rfl)))) hb2)
    have HU2 := Lib.hid (show Blk w2 (s + 1) TC [.int .u8 (k5 : Int), .int .u8 (l5 : Int)] from Blk.below (by (repeat' (first | (with_reducible refine BlkP.Blk.drew ?_) | (with_reducible refine BlkP.Blk.drewN ?_ _) | (with_reducible refine BlkP.Blk.setAt (us := ?_) (by first | omega | (simp; done) | (simp; omega)) rfl ?_ ?_) | (with_reducible refine BlkP.Blk.otherAt ?_ (by first | omega | (simp; done) | (simp; omega))) | (with_reducible refine BlkP.Blk.newA' (by first | omega | (simp; done) | (simp; omega)) rfl) | (with_reducible refine BlkP.Blk.alloc ?_ _) | (exact rfl)))) hb2)
    clear hb2 hk a0 a1 hz1
    go_wp2_with fail
    obtain ⟨l0, hl0⟩ : ∃ l0, n.s.2 = l0 := ⟨_, rfl⟩
    have HL0 := Lib.hid hl0
    have p0 := HU2.out.cell (i := 0) rfl
    have p1 := HU2.out.cell (i := 1) rfl
    have q1 := H2.out.cell (i := 1) (g_lev n)
    rw [hl0] at q1
    have ml := HU2.out.lt
    have ml2 := H2.out.lt
    clear hl0
    cases hws : wet (k5, l5) with
    | true =>
      have HWS := Lib.hid hws
      have HSP := Lib.hid (show spreadS n = [] from by
        have q := HK.out
        rw [HC5.out] at q
        simp [spreadS, q, HC5.out, hws])
      clear hws
      refine wp_region_noPanic ?_
      refine wp_region_held_drew (S := fun W => Below w2.heap.size w2 W) (by kernel_rfl) ((Below.refl _ w2).drew) (fun hHeld => ?_)
      refine wpAnyH_take (i := 0) (oi := ⟨some 15, _, _, _, _, _⟩) (v := .agg #[.int .u8 (k5 : Int), .int .u8 (l5 : Int)]) rfl (by kernel_rfl) (by kernel_rfl) (by kernel_rfl) (fun _ _ _ h => h) (Or.inl ⟨by rfl, fun W hSW => by have a0 := (hSW.cell (p := ⟨s + 1, 0, none⟩) ml).trans p0; have a1 := (hSW.cell (p := ⟨s + 1, 1, none⟩) ml).trans p1; go_simp⟩) hHeld ?_
      simp only [Act.put, List.setIfInBounds_toArray, List.set_cons_zero, List.set_cons_succ]
      refine wpAnyH_ready (rs := [1]) (by kernel_rfl) (by simp) ?_
      refine AllReadyH.cons (o := ⟨some 16, _, _, _, _, _⟩) rfl (fun K hK => ?_) AllReadyH.nil
      go_simp
      refine (isWater_c HWS.out).mono ?_
      rintro e w91 ⟨rfl, hb91⟩
      go_wp2_with fail
      refine hK.out _ _ (below_t hHeld hb91) (fun hHeld => ?_)
      clear hK K hb91
      refine wpAnyH_take (i := 2) (oi := ⟨some 17, _, _, _, _, _⟩) (v := .bool true) rfl (by kernel_rfl) (by kernel_rfl) (by kernel_rfl) (fun _ _ _ h => h) (Or.inl ⟨by rfl, fun W hSW => by go_simp⟩) hHeld ?_
      simp only [Act.put, List.setIfInBounds_toArray, List.set_cons_zero, List.set_cons_succ]
      refine wpAnyH_take (i := 3) (oi := ⟨some 18, _, _, _, _, _⟩) (v := undef) rfl (by kernel_rfl) (by kernel_rfl) (by kernel_rfl) (fun _ _ _ h => h) (Or.inr ⟨by kernel_rfl, rfl⟩) hHeld ?_
      simp only [Act.put, List.setIfInBounds_toArray, List.set_cons_zero, List.set_cons_succ]
      refine wpAnyH_take (i := 4) (oi := ⟨some 19, _, _, _, _, _⟩) (v := undef) rfl (by kernel_rfl) (by kernel_rfl) (by kernel_rfl) (fun _ _ _ h => h) (Or.inr ⟨by kernel_rfl, rfl⟩) hHeld ?_
      simp only [Act.put, List.setIfInBounds_toArray, List.set_cons_zero, List.set_cons_succ]
      refine wpAnyH_take (i := 5) (oi := ⟨some 20, _, _, _, _, _⟩) (v := undef) rfl (by kernel_rfl) (by kernel_rfl) (by kernel_rfl) (fun _ _ _ h => h) (Or.inr ⟨by kernel_rfl, rfl⟩) hHeld ?_
      simp only [Act.put, List.setIfInBounds_toArray, List.set_cons_zero, List.set_cons_succ]
      refine wpAnyH_take (i := 6) (oi := ⟨some 21, _, _, _, _, _⟩) (v := undef) rfl (by kernel_rfl) (by kernel_rfl) (by kernel_rfl) (fun _ _ _ h => h) (Or.inr ⟨by kernel_rfl, rfl⟩) hHeld ?_
      simp only [Act.put, List.setIfInBounds_toArray, List.set_cons_zero, List.set_cons_succ]
      refine wpAnyH_take (i := 7) (oi := ⟨some 22, _, _, _, _, _⟩) (v := undef) rfl (by kernel_rfl) (by kernel_rfl) (by kernel_rfl) (fun _ _ _ h => h) (Or.inr ⟨by kernel_rfl, rfl⟩) hHeld ?_
      simp only [Act.put, List.setIfInBounds_toArray, List.set_cons_zero, List.set_cons_succ]
      refine wpAnyH_take (i := 8) (oi := ⟨some 23, _, _, _, _, _⟩) (v := .bool true) rfl (by kernel_rfl) (by kernel_rfl) (by kernel_rfl) (fun _ _ _ h => h) (Or.inl ⟨by rfl, fun W hSW => by go_simp⟩) hHeld ?_
      simp only [Act.put, List.setIfInBounds_toArray, List.set_cons_zero, List.set_cons_succ]
      refine wpAnyH_done (by kernel_rfl) ?_ _
      refine NoPanic.normal ?_
      refine HeldP.then_named (S := fun W => Below w2.heap.size w2 W) hHeld ?_
      rintro w3 hb3
      have HB3 := Lib.hid (below_t HB2.out hb3)
      have H3 := Lib.hid (H2.out.below hb3)
      clear hHeld hb3 p0 p1 q1 ml ml2
      go_wp2_with fail
      first | go_end0 | (refine bodyPost_ret (results_none rfl _ _ _) rfl ?_)
      refine ⟨rfl, ?_⟩
      rw [HSP.out]
      exact ⟨_, ⟨HD.out.below HB3.out, Own.nil _ _ _ _⟩, Fr.below _ HB3.out⟩
    | false =>
      have HWS := Lib.hid hws
      by_cases hge : 7 ≤ l0
      · have HSP := Lib.hid (show spreadS n = [] from by
          have q := HK.out
          simp [spreadS, q, HL0.out, hge])
        have hgeI : (7 : Int) ≤ (l0 : Int) := by omega
        clear hws
        refine wp_region_noPanic ?_
        refine wp_region_held_drew (S := fun W => Below w2.heap.size w2 W) (by kernel_rfl) ((Below.refl _ w2).drew) (fun hHeld => ?_)
        refine wpAnyH_take (i := 0) (oi := ⟨some 15, _, _, _, _, _⟩) (v := .agg #[.int .u8 (k5 : Int), .int .u8 (l5 : Int)]) rfl (by kernel_rfl) (by kernel_rfl) (by kernel_rfl) (fun _ _ _ h => h) (Or.inl ⟨by rfl, fun W hSW => by have a0 := (hSW.cell (p := ⟨s + 1, 0, none⟩) ml).trans p0; have a1 := (hSW.cell (p := ⟨s + 1, 1, none⟩) ml).trans p1; go_simp⟩) hHeld ?_
        simp only [Act.put, List.setIfInBounds_toArray, List.set_cons_zero, List.set_cons_succ]
        refine wpAnyH_ready (rs := [1]) (by kernel_rfl) (by simp) ?_
        refine AllReadyH.cons (o := ⟨some 16, _, _, _, _, _⟩) rfl (fun K hK => ?_) AllReadyH.nil
        go_simp
        refine (isWater_c HWS.out).mono ?_
        rintro e w91 ⟨rfl, hb91⟩
        go_wp2_with fail
        refine hK.out _ _ (below_t hHeld hb91) (fun hHeld => ?_)
        clear hK K hb91
        refine wpAnyH_take (i := 2) (oi := ⟨some 17, _, _, _, _, _⟩) (v := .bool false) rfl (by kernel_rfl) (by kernel_rfl) (by kernel_rfl) (fun _ _ _ h => h) (Or.inl ⟨by rfl, fun W hSW => by go_simp⟩) hHeld ?_
        simp only [Act.put, List.setIfInBounds_toArray, List.set_cons_zero, List.set_cons_succ]
        refine wpAnyH_take (i := 3) (oi := ⟨some 18, _, _, _, _, _⟩) (v := .pointer (some ⟨s, 0, none⟩)) rfl (by kernel_rfl) (by kernel_rfl) (by kernel_rfl) (fun _ _ _ h => h) (Or.inl ⟨by rfl, fun W hSW => by go_simp⟩) hHeld ?_
        simp only [Act.put, List.setIfInBounds_toArray, List.set_cons_zero, List.set_cons_succ]
        refine wpAnyH_take (i := 4) (oi := ⟨some 19, _, _, _, _, _⟩) (v := .pointer (some ⟨s, 1, none⟩)) rfl (by kernel_rfl) (by kernel_rfl) (by kernel_rfl) (fun _ _ _ h => h) (Or.inl ⟨by rfl, fun W hSW => by go_simp⟩) hHeld ?_
        simp only [Act.put, List.setIfInBounds_toArray, List.set_cons_zero, List.set_cons_succ]
        refine wpAnyH_take (i := 5) (oi := ⟨some 20, _, _, _, _, _⟩) (v := .int .u8 (l0 : Int)) rfl (by kernel_rfl) (by kernel_rfl) (by kernel_rfl) (fun _ _ _ h => h) (Or.inl ⟨by rfl, fun W hSW => by have a0 := (hSW.cell (p := ⟨s, 1, none⟩) ml2).trans q1; go_simp⟩) hHeld ?_
        simp only [Act.put, List.setIfInBounds_toArray, List.set_cons_zero, List.set_cons_succ]
        refine wpAnyH_ready (rs := [6]) (by kernel_rfl) (by simp) ?_
        refine AllReadyH.cons (o := ⟨some 21, _, _, _, _, _⟩) rfl (fun K hK => ?_) AllReadyH.nil
        go_simp
        refine (lev_b _ (HT.out.below (below_t HB2.out hHeld))).mono ?_
        rintro e w92 ⟨rfl, hb92⟩
        go_wp2_with fail
        refine hK.out _ _ (below_t hHeld hb92) (fun hHeld => ?_)
        clear hK K hb92
        refine wpAnyH_take (i := 7) (oi := ⟨some 22, _, _, _, _, _⟩) (v := .bool true) rfl (by kernel_rfl) (by kernel_rfl) (by kernel_rfl) (fun _ _ _ h => h) (Or.inl ⟨by rfl, fun W hSW => by go_simp⟩) hHeld ?_
        simp only [Act.put, List.setIfInBounds_toArray, List.set_cons_zero, List.set_cons_succ]
        refine wpAnyH_take (i := 8) (oi := ⟨some 23, _, _, _, _, _⟩) (v := .bool true) rfl (by kernel_rfl) (by kernel_rfl) (by kernel_rfl) (fun _ _ _ h => h) (Or.inl ⟨by rfl, fun W hSW => by go_simp⟩) hHeld ?_
        simp only [Act.put, List.setIfInBounds_toArray, List.set_cons_zero, List.set_cons_succ]
        refine wpAnyH_done (by kernel_rfl) ?_ _
        refine NoPanic.normal ?_
        refine HeldP.then_named (S := fun W => Below w2.heap.size w2 W) hHeld ?_
        rintro w3 hb3
        have HB3 := Lib.hid (below_t HB2.out hb3)
        have H3 := Lib.hid (H2.out.below hb3)
        clear hHeld hb3 p0 p1 q1 ml ml2
        go_wp2_with fail
        first | go_end0 | (refine bodyPost_ret (results_none rfl _ _ _) rfl ?_)
        refine ⟨rfl, ?_⟩
        rw [HSP.out]
        exact ⟨_, ⟨HD.out.below HB3.out, Own.nil _ _ _ _⟩, Fr.below _ HB3.out⟩
      · have HSP := Lib.hid (show spreadS n = goes n 4 from by
          have q := HK.out
          rw [HC5.out] at q
          simp [spreadS, q, HC5.out, hws, HL0.out, hge])
        have hgeI : ¬ (7 : Int) ≤ (l0 : Int) := by omega
        have HTD := Lib.hid hTD
        clear hws
        refine wp_region_noPanic ?_
        refine wp_region_held_drew (S := fun W => Below w2.heap.size w2 W) (by kernel_rfl) ((Below.refl _ w2).drew) (fun hHeld => ?_)
        refine wpAnyH_take (i := 0) (oi := ⟨some 15, _, _, _, _, _⟩) (v := .agg #[.int .u8 (k5 : Int), .int .u8 (l5 : Int)]) rfl (by kernel_rfl) (by kernel_rfl) (by kernel_rfl) (fun _ _ _ h => h) (Or.inl ⟨by rfl, fun W hSW => by have a0 := (hSW.cell (p := ⟨s + 1, 0, none⟩) ml).trans p0; have a1 := (hSW.cell (p := ⟨s + 1, 1, none⟩) ml).trans p1; go_simp⟩) hHeld ?_
        simp only [Act.put, List.setIfInBounds_toArray, List.set_cons_zero, List.set_cons_succ]
        refine wpAnyH_ready (rs := [1]) (by kernel_rfl) (by simp) ?_
        refine AllReadyH.cons (o := ⟨some 16, _, _, _, _, _⟩) rfl (fun K hK => ?_) AllReadyH.nil
        go_simp
        refine (isWater_c HWS.out).mono ?_
        rintro e w91 ⟨rfl, hb91⟩
        go_wp2_with fail
        refine hK.out _ _ (below_t hHeld hb91) (fun hHeld => ?_)
        clear hK K hb91
        refine wpAnyH_take (i := 2) (oi := ⟨some 17, _, _, _, _, _⟩) (v := .bool false) rfl (by kernel_rfl) (by kernel_rfl) (by kernel_rfl) (fun _ _ _ h => h) (Or.inl ⟨by rfl, fun W hSW => by go_simp⟩) hHeld ?_
        simp only [Act.put, List.setIfInBounds_toArray, List.set_cons_zero, List.set_cons_succ]
        refine wpAnyH_take (i := 3) (oi := ⟨some 18, _, _, _, _, _⟩) (v := .pointer (some ⟨s, 0, none⟩)) rfl (by kernel_rfl) (by kernel_rfl) (by kernel_rfl) (fun _ _ _ h => h) (Or.inl ⟨by rfl, fun W hSW => by go_simp⟩) hHeld ?_
        simp only [Act.put, List.setIfInBounds_toArray, List.set_cons_zero, List.set_cons_succ]
        refine wpAnyH_take (i := 4) (oi := ⟨some 19, _, _, _, _, _⟩) (v := .pointer (some ⟨s, 1, none⟩)) rfl (by kernel_rfl) (by kernel_rfl) (by kernel_rfl) (fun _ _ _ h => h) (Or.inl ⟨by rfl, fun W hSW => by go_simp⟩) hHeld ?_
        simp only [Act.put, List.setIfInBounds_toArray, List.set_cons_zero, List.set_cons_succ]
        refine wpAnyH_take (i := 5) (oi := ⟨some 20, _, _, _, _, _⟩) (v := .int .u8 (l0 : Int)) rfl (by kernel_rfl) (by kernel_rfl) (by kernel_rfl) (fun _ _ _ h => h) (Or.inl ⟨by rfl, fun W hSW => by have a0 := (hSW.cell (p := ⟨s, 1, none⟩) ml2).trans q1; go_simp⟩) hHeld ?_
        simp only [Act.put, List.setIfInBounds_toArray, List.set_cons_zero, List.set_cons_succ]
        refine wpAnyH_ready (rs := [6]) (by kernel_rfl) (by simp) ?_
        refine AllReadyH.cons (o := ⟨some 21, _, _, _, _, _⟩) rfl (fun K hK => ?_) AllReadyH.nil
        go_simp
        refine (lev_b _ (HT.out.below (below_t HB2.out hHeld))).mono ?_
        rintro e w92 ⟨rfl, hb92⟩
        go_wp2_with fail
        refine hK.out _ _ (below_t hHeld hb92) (fun hHeld => ?_)
        clear hK K hb92
        refine wpAnyH_take (i := 7) (oi := ⟨some 22, _, _, _, _, _⟩) (v := .bool false) rfl (by kernel_rfl) (by kernel_rfl) (by kernel_rfl) (fun _ _ _ h => h) (Or.inl ⟨by rfl, fun W hSW => by go_simp⟩) hHeld ?_
        simp only [Act.put, List.setIfInBounds_toArray, List.set_cons_zero, List.set_cons_succ]
        refine wpAnyH_take (i := 8) (oi := ⟨some 23, _, _, _, _, _⟩) (v := .bool false) rfl (by kernel_rfl) (by kernel_rfl) (by kernel_rfl) (fun _ _ _ h => h) (Or.inl ⟨by rfl, fun W hSW => by go_simp⟩) hHeld ?_
        simp only [Act.put, List.setIfInBounds_toArray, List.set_cons_zero, List.set_cons_succ]
        refine wpAnyH_done (by kernel_rfl) ?_ _
        refine NoPanic.normal ?_
        refine HeldP.then_named (S := fun W => Below w2.heap.size w2 W) hHeld ?_
        rintro w3 hb3
        have HB3 := Lib.hid (below_t HB2.out hb3)
        have H3 := Lib.hid (H2.out.below hb3)
        clear hHeld hb3 p0 p1 q1 ml ml2
        go_wp2_with fail
        go_loopw [24] (fun v24 wr => ∃ (j : Nat) (v : Value), v24 = .int .i64 (j : Nat) ∧ j ≤ 4 ∧ Blk wr s TN (vals n) ∧ Dd wr D w.heap.size v (goes n j) ∧ Fr (fun k => k = D) w wr) (fun v _ => 4 - (intOf v).toNat)
        case atStart => exact ⟨0, _, rfl, by omega, H3.out, ⟨HD.out.below HB3.out, Own.nil _ _ _ _⟩, Fr.below _ HB3.out⟩
        case round =>
          obtain ⟨j, v, rfl, hj, hr, hd, hfr⟩ := hrel
          have HR := Lib.hid hr
          have HDD := Lib.hid hd
          have HFR := Lib.hid hfr
          have HTR := Lib.hid (tab_fr HT.out hfr HTD.out)
          by_cases hjl : j < 4
          · have hjI : (j : Int) < 4 := by omega
            have hj6I : (j : Int) < 6 := by omega
            have HWR := Lib.hid (show wrap64 ((j : Int) + 1) = ((j + 1 : Nat) : Int) by rw [wr64 (by omega) (by omega)]; omega)
            obtain ⟨⟨k, l⟩, hc1⟩ : ∃ c, n.sd j = c := ⟨_, rfl⟩
            have HC1 := Lib.hid hc1
            have c0 := hr.cell (g_sk n (d := j) (by omega))
            rw [hc1] at c0
            clear hr hd hfr hc1
            cases hk : KindP.soaks k with
            | true =>
              have HGO := Lib.hid (goes_step n (j := j) (by rw [HC1.out]; exact hk))
              go_wp2_with fail
              refine (soaks_b hk _ HTR.out).mono ?_
              rintro e w4 ⟨rfl, hb4⟩
              have HB4 := Lib.hid hb4
              have q1 := (HR.out.below hb4).cell (i := 1) (g_lev n)
              rw [HL0.out] at q1
              clear hb4 hk c0
              go_wp2_with fail
              refine water_c.mono ?_
              rintro e w5 ⟨rfl, hb5⟩
              have HB5 := Lib.hid (HB4.out.trans (hb5.mono HB4.out.size))
              clear hb5 q1
              go_wp2_with fail
              have hch := change_c (d := 1 + j) (k := 13) (m := l0 + 1) (HDD.out.below HB5.out) (by have := goes_len n j; omega) (Nat.le_trans HFR.out.size HB5.out.size)
              rw [show ((1 + j : Nat) : Int) = 1 + (j : Int) by omega, show ((l0 + 1 : Nat) : Int) = (l0 : Int) + 1 by omega] at hch
              refine hch.mono ?_
              clear hch
              rintro e w6 ⟨rfl, hch⟩
              have HCH := Lib.hid (ch_on (w := w) (HDD.out.below HB5.out) (HFR.out.trans (Fr.below _ HB5.out) (fun i hi => .inl hi)) hch)
              have HR6 := Lib.hid (show Blk w6 s TN (vals n) from by
                obtain ⟨v', h4, h5⟩ := hch
                refine h5.blk (HR.out.below HB5.out) (fun hi => ?_)
                rcases hi with hi | hi
                · have := HDS.out
                  omega
                · exact own_ne (HDD.out.below HB5.out).2 (HR.out.below HB5.out) (by decide) hi)
              clear hch
              go_wp2_with fail
              go_roundw
              case rel =>
                obtain ⟨v', h4, h5⟩ := HCH.out
                refine ⟨j + 1, v', by first | rfl | rw [HWR.out] | (congr 1; omega), by omega, HR6.out, ?_, h5⟩
                rw [HGO.out, HL0.out]
                exact h4
              case measure =>
                simp only [intOf]
                omega
            | false =>
              have HGO := Lib.hid (goes_skip n (j := j) (by rw [HC1.out]; exact hk))
              go_wp2_with fail
              refine (soaks_b hk _ HTR.out).mono ?_
              rintro e w4 ⟨rfl, hb4⟩
              have HB4 := Lib.hid hb4
              clear hb4 hk c0
              go_wp2_with fail
              go_roundw
              case rel =>
                refine ⟨j + 1, v, by first | rfl | rw [HWR.out] | (congr 1; omega), by omega, HR.out.below HB4.out, ?_, HFR.out.trans (Fr.below _ HB4.out) (fun i hi => .inl hi)⟩
                rw [HGO.out]
                exact HDD.out.below HB4.out
              case measure =>
                simp only [intOf]
                omega
          · have hje : j = 4 := by omega
            have hjI : ¬ (j : Int) < 4 := by omega
            subst hje
            clear hr hd hfr
            go_wp2_with fail
            first | go_end0 | (refine bodyPost_ret (results_none rfl _ _ _) rfl ?_)
            refine ⟨rfl, ?_⟩
            rw [HSP.out]
            exact ⟨_, HDD.out, HFR.out⟩
end FlowW
end Go.Proofs.YtlahkmkipciiiaaDoor
