/-
  A row's bytes.
-/
import Derived.Test.YtdboebokjkkgkaaDoorRunsIter
import Derived.Test.YtdboebokjkkgkaaDoorBytesPuts
import Derived.Test.YtdboebokjkkgkaaDoorRoundR
import Derived.Test.YtdboebokjkkgkaaDoorHeldP
namespace Go.Proofs.YtdboebokjkkgkaaDoor
open Go.RowKit Go.Shelf
open Go.Lib (uvarint uvarint_small uvarint_big uvarint_length64 uvarint_pos zigzag)
set_option linter.unusedVariables false
set_option linter.unusedSimpArgs false
attribute [local go_sem] Oper.semAt_some
namespace RunsW
open BytesW

def putPre {w0 : World} (pre : List (Piece w0)) : List UInt8 := (pre.map Piece.run).flatMap runBytes
theorem putPre_snoc {w0 : World} (pre : List (Piece w0)) (p : Piece w0) : putPre (pre ++ [p]) = putPre pre ++ uvarint p.n ++ [p.x] := by simp [putPre, runBytes, Piece.run]
theorem putPre_le {w0 : World} : ∀ pre : List (Piece w0), (putPre pre).length ≤ 11 * pre.length
  | [] => by simp [putPre]
  | p :: r => by
    have h1 := putPre_le r
    have h2 := uvarint_length64 (x := p.n) (by have := p.le; omega)
    simp only [putPre, List.map_cons, List.flatMap_cons, List.length_append, runBytes, Piece.run, List.length_cons, List.length_nil] at h1 ⊢
    omega
theorem put0_c {w : World} {n : Nat} {x : Int} (hn : n < 18446744073709551616) (hx : x = n) : Calls Tryd.prog 42 #[.slice none 0 0, .int .u64 x] w (Gives w (uvarint n)) := by
  subst hx
  have h := @put_c w none [] 0 n At.nil (by simp) hn
  rw [List.nil_append] at h
  exact h

set_option maxRecDepth 100000 in
set_option maxHeartbeats 4000000 in
theorem put5_c {w : World} {A : Option Addr} {l : List UInt8} {c : Nat} (hA : AtC w A l) (hcap : l.length ≤ c) (hl : l.length ≤ 100000) :
    Calls Tryd.prog 25 #[.slice A l.length c] w (Gives w (putR l)) := by
  refine (callsIn_wide (n := 6)).1 ?_
  refine callsIn_of_wp_marks Tryd.func25 rfl trivial ?_ rfl
  refine wpIn_wide.2 ?_
  simp only [Tryd.ntmps25, List.size_toArray, List.length_cons, List.length_nil, Nat.reduceAdd, Nat.reduceSub, Array.replicate_succ, Array.replicate_zero, List.push_toArray, List.append_toArray, List.nil_append, List.cons_append]
  go_wp2_with (go_at_call 41; refine each_c.mono ?_; rintro e w1 ⟨rfl, rfl⟩)
  refine HeldP.wp_named (fun W => Below w.heap.size w W ∧ W.heap.size = w.heap.size + 2 ∧ Boxed W w.heap.size 26 (.slice none 0 0) ∧ W.cell? ⟨w.heap.size + 1, 0, none⟩ = some (.slice A l.length c))
    (by (refine ⟨by (repeat' (first | (with_reducible exact Below.refl _ _) | (with_reducible refine Below.setCell ?_ (by (first | omega | (simp; done) | (simp; omega))) _) | (with_reducible refine Below.alloc ?_ (by (first | omega | (simp; done) | (simp; omega))) _) | (with_reducible refine Below.drew ?_) | (with_reducible refine below_drewN ?_ _))), by simp, (Boxed.new w _ _).alloc _, ?_⟩); all_goals (repeat' (first | (with_reducible assumption) | (with_reducible refine HeldP.c_drew ?_) | (with_reducible refine HeldP.c_drewN ?_) | (with_reducible refine HeldP.c_same (by omega) ?_) | (with_reducible refine HeldP.c_other ?_ ?_) | (with_reducible refine HeldP.c_new (by first | omega | (simp; done) | (simp; omega)) ?_) | (with_reducible refine HeldP.c_alloc ?_ ?_) | (with_reducible refine HeldP.e_drew ?_) | (with_reducible refine HeldP.e_drewN ?_) | (with_reducible refine HeldP.e_set ?_) | (with_reducible refine HeldP.e_new (by first | omega | (simp; done) | (simp; omega)) ⟨_, rfl⟩) | (with_reducible refine HeldP.e_alloc ?_ ?_) | (with_reducible refine HeldP.f_drew ?_) | (with_reducible refine HeldP.f_drewN ?_) | (with_reducible refine HeldP.f_set ?_) | (with_reducible refine HeldP.f_new (by first | omega | (simp; done) | (simp; omega))) | (with_reducible refine HeldP.f_alloc ?_ ?_) | (with_reducible refine HeldP.s_drew ?_) | (with_reducible refine HeldP.s_drewN ?_) | (with_reducible refine HeldP.s_set ?_) | (with_reducible refine HeldP.s_new (by first | omega | (simp; done) | (simp; omega))) | (with_reducible refine HeldP.s_alloc ?_) | (with_reducible exact ⟨_, by assumption⟩) | omega | (intro e; simp at e; done) | (intro e; simp at e; omega) | (exact rfl) | (simp; done) | (simp; omega)))) ?_
  rintro W0 ⟨hB0, hsz, b0, c1⟩
  have ST := each_stops 5 (by omega) (w.heap.size + 1) hA (by omega) hcap hB0 (by omega) c1
  refine wpIn_wide (n := 6) |>.1 ?_
  refine wpIn_rangeFunc_ownF rfl (by omega) (gf := 51) (lb := #[.pointer (some ⟨w.heap.size + 1, 0, none⟩)]) rfl trivial (enters_of Tryd.func51 (by kernel_rfl) rfl) ST belowK_t (belowK_b (by omega)) (Below.refl _ _) (fun _ => rfl)
    (fun pre W => (∃ v, Boxed W w.heap.size 26 v ∧ W.ownsRow w.heap.size 5 1 v (putPre pre).length ((putPre pre).map bv) ∧ True) ∧ Below w.heap.size w W)
    (fun _ _ _ => False)
    (OwnFrom.and (Own.from (holdsRow_own w.heap.size w.heap.size 26 5 1 (fun pre => (putPre pre).length) (fun pre => (putPre pre).map bv) (fun pre v => True)) _) (ownFrom_below (Nat.le_refl _) (by omega)))
    (fun _ _ _ _ _ hs _ _ => hs)
    ⟨⟨_, b0, World.ownsRow_nil _ _ _ _, trivial⟩, hB0⟩
    (fun p => { tmps := #[.slice A l.length c, undef, .slice none 0 0, .pointer (some ⟨w.heap.size, 0, none⟩), .slice p.A p.n p.c, .slice A l.length c, .func (.func 51) #[] #[.pointer (some ⟨w.heap.size + 1, 0, none⟩)], .slice p.A p.n p.c, undef, undef, undef, undef, undef, undef, undef, undef, undef, undef, undef, undef, undef], defers := [] })
    ?assign ?body ?done ?stop
  case assign =>
    rintro l p W K hK
    dsimp only [encP]
    gi_wp2
    first | exact hK | simpa using hK
  case body =>
    rintro l' pre ⟨pA, pc, pn, px, phas, ppos, ple⟩ W ⟨⟨v, hbx, hrow, _⟩, hB⟩ hlt
    dsimp only
    have hown : BytesW.Own W w.heap.size v (putPre pre) := hrow
    have hle := hB.size
    have hpl := putPre_le pre
    have hbc := hbx.cell
    have hul := uvarint_length64 (x := pn) (by omega)
    obtain ⟨A1, c1, rfl, hA1, hc1, hcm1⟩ := hown.sl
    obtain ⟨b, oo, rfl, hcs⟩ := at_cell phas (by rw [Ne, List.replicate_eq_nil_iff]; omega)
    have hlp := at_ltC phas (by rw [Ne, List.replicate_eq_nil_iff]; omega)
    obtain ⟨x', X, ex, hX, X0, X1, g0⟩ := hcs 0 (by simp; omega)
    rw [Nat.add_zero] at g0
    have hxx : x' = px := by
      rw [List.getElem?_replicate] at ex
      split at ex
      · injection ex with ex
        exact ex.symm
      · cases ex
    subst hxx
    have hX2 := Lib.hid hX
    obtain ⟨R2, hR2⟩ : ∃ R2, R2 = putPre pre ++ uvarint pn := ⟨_, rfl⟩
    obtain ⟨R3, hR3⟩ : ∃ R3, R3 = R2 ++ [x'] := ⟨_, rfl⟩
    have hR2l : R2.length ≤ 2000000 := by rw [hR2]; simp; omega
    have HR2 := Lib.hid hR2
    have HR3 := Lib.hid hR3
    have HR4 : Hid (R3 = putPre (pre ++ [⟨some ⟨b, oo, none⟩, pc, pn, x', phas, ppos, ple⟩])) := Lib.hid (by rw [hR3, hR2, putPre_snoc])
    have hp0 : (0 : Int) < pn := by omega
    clear hR2 hR3 ex hX hcs hrow
    have HUW := Lib.hid (show IntKind.u64.wrap (pn : Int) = pn by rw [IntKind.wrap_u64]; omega)
    have hbxW := hbx
    have hownW := hown
    have hleW := hle
    gi_wp2
    refine RoundR.region (S := fun _ => True) (by kernel_rfl) (by kernel_rfl) trivial (fun hHeld => ?_)
    refine wpAnyH_take (i := 1) (oi := ⟨some 9, _, _, _, _, _⟩) (v := .slice (some ⟨b, oo, none⟩) pn pc) rfl (by kernel_rfl) (by kernel_rfl) (by kernel_rfl) (fun _ _ _ h => h) (Or.inl ⟨by rfl, fun w hSw => by go_simp⟩) hHeld ?_
    simp only [Act.put, List.setIfInBounds_toArray, List.set_cons_zero, List.set_cons_succ]
    refine wpAnyH_take (i := 2) (oi := ⟨some 10, _, _, _, _, _⟩) (v := .int .i64 pn) rfl (by kernel_rfl) (by kernel_rfl) (by kernel_rfl) (fun _ _ _ h => h) (Or.inl ⟨by rfl, fun w hSw => by go_simp⟩) hHeld ?_
    simp only [Act.put, List.setIfInBounds_toArray, List.set_cons_zero, List.set_cons_succ]
    refine wpAnyH_take (i := 3) (oi := ⟨some 11, _, _, _, _, _⟩) (v := .int .u64 pn) rfl (by kernel_rfl) (by kernel_rfl) (by kernel_rfl) (fun _ _ _ h => h) (Or.inl ⟨by rfl, fun w hSw => by go_simp <;> exact HUW.out⟩) hHeld ?_
    simp only [Act.put, List.setIfInBounds_toArray, List.set_cons_zero, List.set_cons_succ]
    refine wpAnyH_ready (rs := [0, 4]) (by kernel_rfl) (by simp) ?_
    refine AllReadyH.cons (o := ⟨some 8, _, _, _, _, _⟩) rfl (fun K hK => ?_) (AllReadyH.cons (o := ⟨some 12, _, _, _, _, _⟩) rfl (fun K hK => ?_) AllReadyH.nil)
    · go_simp
      refine hK.out _ _ trivial (fun _ => ?_)
      clear hK K
      refine wpAnyH_ready (rs := [4]) (by kernel_rfl) (by simp) ?_
      refine AllReadyH.cons (o := ⟨some 12, _, _, _, _, _⟩) rfl (fun K hK => ?_) AllReadyH.nil
      go_simp
      refine (put0_c (n := pn) (by omega) rfl).mono ?_
      rintro e w1 ⟨v1, rfl, hown1, hb1⟩
      have hbw1 : Below W.heap.size W w1 := ((Below.refl _ W).drew).trans hb1
      obtain ⟨B1, d1, rfl, hB1, hd1, hdm1⟩ := hown1.sl
      have hownA := hownW.below hbw1
      have hbcA := (hbw1.cell (p := ⟨w.heap.size, 0, none⟩) hbxW.lt).trans hbxW.cell
      have hsA := hbw1.size
      refine hK.out _ _ trivial (fun _ => ?_)
      clear hK K
      refine wpAnyH_ready (rs := [5]) (by kernel_rfl) (by simp) ?_
      refine AllReadyH.cons (o := ⟨some 13, _, _, _, _, _⟩) rfl (fun K hK => ?_) AllReadyH.nil
      refine step_app rfl (.tmp 8) (.tmp 12) rfl (B := w.heap.size) (l := putPre pre) rfl hownA (A := B1) (c := d1) rfl hB1 (by (first | omega | (simp; omega))) (by (first | omega | (simp; omega))) ?_
      intro v2 w2 hown2 hg2
      rw [← HR2.out] at hown2
      obtain ⟨hbx2, hby2, hownn2, hko2, hbb2⟩ := boxed_app hbxW hownW hbw1 hleW (Nat.le_refl _) hown2 hg2
      have hbc2 := hbx2.cell
      have hbf2 := hbx2.frozen
      obtain ⟨A2, c2, rfl, hA2, hc2, hcm2⟩ := hown2.sl
      refine hK.out _ _ trivial (fun _ => ?_)
      clear hK K
      refine wpAnyH_ready (rs := [6]) (by kernel_rfl) (by simp) ?_
      refine AllReadyH.cons (o := ⟨none, _, _, _, _, _⟩) rfl (fun K hK => ?_) AllReadyH.nil
      go_simp
      refine hK.out _ _ trivial (fun _ => ?_)
      clear hK K
      refine wpAnyH_done (by kernel_rfl) ?_ _
      refine RoundR.Calm.normal ?_
      refine HeldP.then_named (fun W' => Boxed W' w.heap.size 26 (.slice A2 R2.length c2) ∧ BytesW.Own W' w.heap.size (.slice A2 R2.length c2) R2 ∧ KeepsOthers W W' ∧ Below w.heap.size W W') ⟨hby2, hownn2, hko2, hbb2⟩ ?_
      rintro W4 ⟨hbxW4, hownW4, hkoW4, hbbW4⟩
      clear hby2 hownn2 hko2 hbb2 hbx2 hown2 hg2 hbc2 hbf2 hA2 hB1 hownA hbcA hown1 hb1 hbw1
      have hbB := hB.trans hbbW4
      have hleW4 := hbB.size
      have hbcW4 := hbxW4.cell
      have g1 := (hbB.cell (p := ⟨b, oo, none⟩) hlp).trans g0
      gi_wp2
      refine RoundR.region (S := fun _ => True) (by kernel_rfl) (by kernel_rfl) trivial (fun hHeld => ?_)
      refine wpAnyH_take (i := 1) (oi := ⟨some 15, _, _, _, _, _⟩) (v := .slice (some ⟨b, oo, none⟩) pn pc) rfl (by kernel_rfl) (by kernel_rfl) (by kernel_rfl) (fun _ _ _ h => h) (Or.inl ⟨by rfl, fun w hSw => by go_simp⟩) hHeld ?_
      simp only [Act.put, List.setIfInBounds_toArray, List.set_cons_zero, List.set_cons_succ]
      refine wpAnyH_take (i := 2) (oi := ⟨some 16, _, _, _, _, _⟩) (v := .pointer (some ⟨b, oo, none⟩)) rfl (by kernel_rfl) (by kernel_rfl) (by kernel_rfl) (fun _ _ _ h => h) (Or.inl ⟨by rfl, fun w hSw => by go_simp <;> (intro h; omega)⟩) hHeld ?_
      simp only [Act.put, List.setIfInBounds_toArray, List.set_cons_zero, List.set_cons_succ]
      refine wpAnyH_ready (rs := [0, 3]) (by kernel_rfl) (by simp) ?_
      refine AllReadyH.cons (o := ⟨some 14, _, _, _, _, _⟩) rfl (fun K hK => ?_) (AllReadyH.cons (o := ⟨some 17, _, _, _, _, _⟩) rfl (fun K hK => ?_) AllReadyH.nil)
      · go_simp
        refine hK.out _ _ trivial (fun _ => ?_)
        clear hK K
        refine wpAnyH_ready (rs := [3]) (by kernel_rfl) (by simp) ?_
        refine AllReadyH.cons (o := ⟨some 17, _, _, _, _, _⟩) rfl (fun K hK => ?_) AllReadyH.nil
        go_simp
        refine hK.out _ _ trivial (fun _ => ?_)
        clear hK K
        refine wpAnyH_ready (rs := [4]) (by kernel_rfl) (by simp) ?_
        refine AllReadyH.cons (o := ⟨some 18, _, _, _, _, _⟩) rfl (fun K hK => ?_) AllReadyH.nil
        go_simp
        refine hK.out _ _ trivial (fun _ => ?_)
        clear hK K
        have hbal : Below W4.heap.size W4 (W4.drew.alloc (.cells #[.int .u8 X] 5)) := ((Below.refl _ W4).drew).alloc (Nat.le_refl _) _
        refine wpAnyH_ready (rs := [5]) (by kernel_rfl) (by simp) ?_
        refine AllReadyH.cons (o := ⟨some 19, _, _, _, _, _⟩) rfl (fun K hK => ?_) AllReadyH.nil
        refine step_app rfl (.tmp 14) (.tmp 18) rfl (B := w.heap.size) (l := R2) rfl (hownW4.below hbal) (l2 := [x']) (c := 1) rfl (at_one hX2.out) (by (first | omega | (simp; omega))) (by (first | omega | (simp; omega))) ?_
        intro v3 w3 hown3 hg3
        rw [← HR3.out] at hown3
        obtain ⟨hbx3, hby3, hownn3, hko3, hbb3⟩ := boxed_app hbxW4 hownW4 hbal hleW4 (Nat.le_refl _) hown3 hg3
        have hbc3 := hbx3.cell
        have hbf3 := hbx3.frozen
        obtain ⟨A3, c3, rfl, hA3, hc3, hcm3⟩ := hown3.sl
        refine hK.out _ _ trivial (fun _ => ?_)
        clear hK K
        refine wpAnyH_ready (rs := [6]) (by kernel_rfl) (by simp) ?_
        refine AllReadyH.cons (o := ⟨none, _, _, _, _, _⟩) rfl (fun K hK => ?_) AllReadyH.nil
        go_simp
        refine hK.out _ _ trivial (fun _ => ?_)
        clear hK K
        refine wpAnyH_done (by kernel_rfl) ?_ _
        refine RoundR.Calm.normal ?_
        gi_wp2
        exact ⟨hkoW4.trans hko3, hbbW4.trans hbb3, ⟨_, hby3, HR4.out ▸ hownn3, trivial⟩, hB.trans (hbbW4.trans hbb3)⟩
      · go_simp
        refine hK.out _ _ trivial (fun _ => ?_)
        clear hK K
        refine wpAnyH_ready (rs := [0, 4]) (by kernel_rfl) (by simp) ?_
        refine AllReadyH.cons (o := ⟨some 14, _, _, _, _, _⟩) rfl (fun K hK => ?_) (AllReadyH.cons (o := ⟨some 18, _, _, _, _, _⟩) rfl (fun K hK => ?_) AllReadyH.nil)
        · go_simp
          refine hK.out _ _ trivial (fun _ => ?_)
          clear hK K
          refine wpAnyH_ready (rs := [4]) (by kernel_rfl) (by simp) ?_
          refine AllReadyH.cons (o := ⟨some 18, _, _, _, _, _⟩) rfl (fun K hK => ?_) AllReadyH.nil
          go_simp
          refine hK.out _ _ trivial (fun _ => ?_)
          clear hK K
          have hbal : Below W4.heap.size W4 (W4.drew.alloc (.cells #[.int .u8 X] 5)) := ((Below.refl _ W4).drew).alloc (Nat.le_refl _) _
          refine wpAnyH_ready (rs := [5]) (by kernel_rfl) (by simp) ?_
          refine AllReadyH.cons (o := ⟨some 19, _, _, _, _, _⟩) rfl (fun K hK => ?_) AllReadyH.nil
          refine step_app rfl (.tmp 14) (.tmp 18) rfl (B := w.heap.size) (l := R2) rfl (hownW4.below hbal) (l2 := [x']) (c := 1) rfl (at_one hX2.out) (by (first | omega | (simp; omega))) (by (first | omega | (simp; omega))) ?_
          intro v3 w3 hown3 hg3
          rw [← HR3.out] at hown3
          obtain ⟨hbx3, hby3, hownn3, hko3, hbb3⟩ := boxed_app hbxW4 hownW4 hbal hleW4 (Nat.le_refl _) hown3 hg3
          have hbc3 := hbx3.cell
          have hbf3 := hbx3.frozen
          obtain ⟨A3, c3, rfl, hA3, hc3, hcm3⟩ := hown3.sl
          refine hK.out _ _ trivial (fun _ => ?_)
          clear hK K
          refine wpAnyH_ready (rs := [6]) (by kernel_rfl) (by simp) ?_
          refine AllReadyH.cons (o := ⟨none, _, _, _, _, _⟩) rfl (fun K hK => ?_) AllReadyH.nil
          go_simp
          refine hK.out _ _ trivial (fun _ => ?_)
          clear hK K
          refine wpAnyH_done (by kernel_rfl) ?_ _
          refine RoundR.Calm.normal ?_
          gi_wp2
          exact ⟨hkoW4.trans hko3, hbbW4.trans hbb3, ⟨_, hby3, HR4.out ▸ hownn3, trivial⟩, hB.trans (hbbW4.trans hbb3)⟩
        · go_simp
          refine hK.out _ _ trivial (fun _ => ?_)
          clear hK K
          have hbal : Below W4.heap.size W4 (W4.drew.alloc (.cells #[.int .u8 X] 5)) := ((Below.refl _ W4).drew).alloc (Nat.le_refl _) _
          have hbcal := (hbal.cell (p := ⟨w.heap.size, 0, none⟩) hbxW4.lt).trans hbcW4
          have hbcal2 : (W4.alloc (.cells #[.int .u8 X] 5)).cell? ⟨w.heap.size, 0, none⟩ = some (.slice A2 R2.length c2) := hbcal
          refine wpAnyH_ready (rs := [0]) (by kernel_rfl) (by simp) ?_
          refine AllReadyH.cons (o := ⟨some 14, _, _, _, _, _⟩) rfl (fun K hK => ?_) AllReadyH.nil
          go_simp
          refine hK.out _ _ trivial (fun _ => ?_)
          clear hK K
          refine wpAnyH_ready (rs := [5]) (by kernel_rfl) (by simp) ?_
          refine AllReadyH.cons (o := ⟨some 19, _, _, _, _, _⟩) rfl (fun K hK => ?_) AllReadyH.nil
          refine step_app rfl (.tmp 14) (.tmp 18) rfl (B := w.heap.size) (l := R2) rfl (hownW4.below hbal) (l2 := [x']) (c := 1) rfl (at_one hX2.out) (by (first | omega | (simp; omega))) (by (first | omega | (simp; omega))) ?_
          intro v3 w3 hown3 hg3
          rw [← HR3.out] at hown3
          obtain ⟨hbx3, hby3, hownn3, hko3, hbb3⟩ := boxed_app hbxW4 hownW4 hbal hleW4 (Nat.le_refl _) hown3 hg3
          have hbc3 := hbx3.cell
          have hbf3 := hbx3.frozen
          obtain ⟨A3, c3, rfl, hA3, hc3, hcm3⟩ := hown3.sl
          refine hK.out _ _ trivial (fun _ => ?_)
          clear hK K
          refine wpAnyH_ready (rs := [6]) (by kernel_rfl) (by simp) ?_
          refine AllReadyH.cons (o := ⟨none, _, _, _, _, _⟩) rfl (fun K hK => ?_) AllReadyH.nil
          go_simp
          refine hK.out _ _ trivial (fun _ => ?_)
          clear hK K
          refine wpAnyH_done (by kernel_rfl) ?_ _
          refine RoundR.Calm.normal ?_
          gi_wp2
          exact ⟨hkoW4.trans hko3, hbbW4.trans hbb3, ⟨_, hby3, HR4.out ▸ hownn3, trivial⟩, hB.trans (hbbW4.trans hbb3)⟩
    · go_simp
      refine (put0_c (n := pn) (by omega) rfl).mono ?_
      rintro e w1 ⟨v1, rfl, hown1, hb1⟩
      have hbw1 : Below W.heap.size W w1 := ((Below.refl _ W).drew).trans hb1
      obtain ⟨B1, d1, rfl, hB1, hd1, hdm1⟩ := hown1.sl
      have hownA := hownW.below hbw1
      have hbcA := (hbw1.cell (p := ⟨w.heap.size, 0, none⟩) hbxW.lt).trans hbxW.cell
      have hsA := hbw1.size
      refine hK.out _ _ trivial (fun _ => ?_)
      clear hK K
      refine wpAnyH_ready (rs := [0]) (by kernel_rfl) (by simp) ?_
      refine AllReadyH.cons (o := ⟨some 8, _, _, _, _, _⟩) rfl (fun K hK => ?_) AllReadyH.nil
      go_simp
      refine hK.out _ _ trivial (fun _ => ?_)
      clear hK K
      refine wpAnyH_ready (rs := [5]) (by kernel_rfl) (by simp) ?_
      refine AllReadyH.cons (o := ⟨some 13, _, _, _, _, _⟩) rfl (fun K hK => ?_) AllReadyH.nil
      refine step_app rfl (.tmp 8) (.tmp 12) rfl (B := w.heap.size) (l := putPre pre) rfl hownA (A := B1) (c := d1) rfl hB1 (by (first | omega | (simp; omega))) (by (first | omega | (simp; omega))) ?_
      intro v2 w2 hown2 hg2
      rw [← HR2.out] at hown2
      obtain ⟨hbx2, hby2, hownn2, hko2, hbb2⟩ := boxed_app hbxW hownW hbw1 hleW (Nat.le_refl _) hown2 hg2
      have hbc2 := hbx2.cell
      have hbf2 := hbx2.frozen
      obtain ⟨A2, c2, rfl, hA2, hc2, hcm2⟩ := hown2.sl
      refine hK.out _ _ trivial (fun _ => ?_)
      clear hK K
      refine wpAnyH_ready (rs := [6]) (by kernel_rfl) (by simp) ?_
      refine AllReadyH.cons (o := ⟨none, _, _, _, _, _⟩) rfl (fun K hK => ?_) AllReadyH.nil
      go_simp
      refine hK.out _ _ trivial (fun _ => ?_)
      clear hK K
      refine wpAnyH_done (by kernel_rfl) ?_ _
      refine RoundR.Calm.normal ?_
      refine HeldP.then_named (fun W' => Boxed W' w.heap.size 26 (.slice A2 R2.length c2) ∧ BytesW.Own W' w.heap.size (.slice A2 R2.length c2) R2 ∧ KeepsOthers W W' ∧ Below w.heap.size W W') ⟨hby2, hownn2, hko2, hbb2⟩ ?_
      rintro W4 ⟨hbxW4, hownW4, hkoW4, hbbW4⟩
      clear hby2 hownn2 hko2 hbb2 hbx2 hown2 hg2 hbc2 hbf2 hA2 hB1 hownA hbcA hown1 hb1 hbw1
      have hbB := hB.trans hbbW4
      have hleW4 := hbB.size
      have hbcW4 := hbxW4.cell
      have g1 := (hbB.cell (p := ⟨b, oo, none⟩) hlp).trans g0
      gi_wp2
      refine RoundR.region (S := fun _ => True) (by kernel_rfl) (by kernel_rfl) trivial (fun hHeld => ?_)
      refine wpAnyH_take (i := 1) (oi := ⟨some 15, _, _, _, _, _⟩) (v := .slice (some ⟨b, oo, none⟩) pn pc) rfl (by kernel_rfl) (by kernel_rfl) (by kernel_rfl) (fun _ _ _ h => h) (Or.inl ⟨by rfl, fun w hSw => by go_simp⟩) hHeld ?_
      simp only [Act.put, List.setIfInBounds_toArray, List.set_cons_zero, List.set_cons_succ]
      refine wpAnyH_take (i := 2) (oi := ⟨some 16, _, _, _, _, _⟩) (v := .pointer (some ⟨b, oo, none⟩)) rfl (by kernel_rfl) (by kernel_rfl) (by kernel_rfl) (fun _ _ _ h => h) (Or.inl ⟨by rfl, fun w hSw => by go_simp <;> (intro h; omega)⟩) hHeld ?_
      simp only [Act.put, List.setIfInBounds_toArray, List.set_cons_zero, List.set_cons_succ]
      refine wpAnyH_ready (rs := [0, 3]) (by kernel_rfl) (by simp) ?_
      refine AllReadyH.cons (o := ⟨some 14, _, _, _, _, _⟩) rfl (fun K hK => ?_) (AllReadyH.cons (o := ⟨some 17, _, _, _, _, _⟩) rfl (fun K hK => ?_) AllReadyH.nil)
      · go_simp
        refine hK.out _ _ trivial (fun _ => ?_)
        clear hK K
        refine wpAnyH_ready (rs := [3]) (by kernel_rfl) (by simp) ?_
        refine AllReadyH.cons (o := ⟨some 17, _, _, _, _, _⟩) rfl (fun K hK => ?_) AllReadyH.nil
        go_simp
        refine hK.out _ _ trivial (fun _ => ?_)
        clear hK K
        refine wpAnyH_ready (rs := [4]) (by kernel_rfl) (by simp) ?_
        refine AllReadyH.cons (o := ⟨some 18, _, _, _, _, _⟩) rfl (fun K hK => ?_) AllReadyH.nil
        go_simp
        refine hK.out _ _ trivial (fun _ => ?_)
        clear hK K
        have hbal : Below W4.heap.size W4 (W4.drew.alloc (.cells #[.int .u8 X] 5)) := ((Below.refl _ W4).drew).alloc (Nat.le_refl _) _
        refine wpAnyH_ready (rs := [5]) (by kernel_rfl) (by simp) ?_
        refine AllReadyH.cons (o := ⟨some 19, _, _, _, _, _⟩) rfl (fun K hK => ?_) AllReadyH.nil
        refine step_app rfl (.tmp 14) (.tmp 18) rfl (B := w.heap.size) (l := R2) rfl (hownW4.below hbal) (l2 := [x']) (c := 1) rfl (at_one hX2.out) (by (first | omega | (simp; omega))) (by (first | omega | (simp; omega))) ?_
        intro v3 w3 hown3 hg3
        rw [← HR3.out] at hown3
        obtain ⟨hbx3, hby3, hownn3, hko3, hbb3⟩ := boxed_app hbxW4 hownW4 hbal hleW4 (Nat.le_refl _) hown3 hg3
        have hbc3 := hbx3.cell
        have hbf3 := hbx3.frozen
        obtain ⟨A3, c3, rfl, hA3, hc3, hcm3⟩ := hown3.sl
        refine hK.out _ _ trivial (fun _ => ?_)
        clear hK K
        refine wpAnyH_ready (rs := [6]) (by kernel_rfl) (by simp) ?_
        refine AllReadyH.cons (o := ⟨none, _, _, _, _, _⟩) rfl (fun K hK => ?_) AllReadyH.nil
        go_simp
        refine hK.out _ _ trivial (fun _ => ?_)
        clear hK K
        refine wpAnyH_done (by kernel_rfl) ?_ _
        refine RoundR.Calm.normal ?_
        gi_wp2
        exact ⟨hkoW4.trans hko3, hbbW4.trans hbb3, ⟨_, hby3, HR4.out ▸ hownn3, trivial⟩, hB.trans (hbbW4.trans hbb3)⟩
      · go_simp
        refine hK.out _ _ trivial (fun _ => ?_)
        clear hK K
        refine wpAnyH_ready (rs := [0, 4]) (by kernel_rfl) (by simp) ?_
        refine AllReadyH.cons (o := ⟨some 14, _, _, _, _, _⟩) rfl (fun K hK => ?_) (AllReadyH.cons (o := ⟨some 18, _, _, _, _, _⟩) rfl (fun K hK => ?_) AllReadyH.nil)
        · go_simp
          refine hK.out _ _ trivial (fun _ => ?_)
          clear hK K
          refine wpAnyH_ready (rs := [4]) (by kernel_rfl) (by simp) ?_
          refine AllReadyH.cons (o := ⟨some 18, _, _, _, _, _⟩) rfl (fun K hK => ?_) AllReadyH.nil
          go_simp
          refine hK.out _ _ trivial (fun _ => ?_)
          clear hK K
          have hbal : Below W4.heap.size W4 (W4.drew.alloc (.cells #[.int .u8 X] 5)) := ((Below.refl _ W4).drew).alloc (Nat.le_refl _) _
          refine wpAnyH_ready (rs := [5]) (by kernel_rfl) (by simp) ?_
          refine AllReadyH.cons (o := ⟨some 19, _, _, _, _, _⟩) rfl (fun K hK => ?_) AllReadyH.nil
          refine step_app rfl (.tmp 14) (.tmp 18) rfl (B := w.heap.size) (l := R2) rfl (hownW4.below hbal) (l2 := [x']) (c := 1) rfl (at_one hX2.out) (by (first | omega | (simp; omega))) (by (first | omega | (simp; omega))) ?_
          intro v3 w3 hown3 hg3
          rw [← HR3.out] at hown3
          obtain ⟨hbx3, hby3, hownn3, hko3, hbb3⟩ := boxed_app hbxW4 hownW4 hbal hleW4 (Nat.le_refl _) hown3 hg3
          have hbc3 := hbx3.cell
          have hbf3 := hbx3.frozen
          obtain ⟨A3, c3, rfl, hA3, hc3, hcm3⟩ := hown3.sl
          refine hK.out _ _ trivial (fun _ => ?_)
          clear hK K
          refine wpAnyH_ready (rs := [6]) (by kernel_rfl) (by simp) ?_
          refine AllReadyH.cons (o := ⟨none, _, _, _, _, _⟩) rfl (fun K hK => ?_) AllReadyH.nil
          go_simp
          refine hK.out _ _ trivial (fun _ => ?_)
          clear hK K
          refine wpAnyH_done (by kernel_rfl) ?_ _
          refine RoundR.Calm.normal ?_
          gi_wp2
          exact ⟨hkoW4.trans hko3, hbbW4.trans hbb3, ⟨_, hby3, HR4.out ▸ hownn3, trivial⟩, hB.trans (hbbW4.trans hbb3)⟩
        · go_simp
          refine hK.out _ _ trivial (fun _ => ?_)
          clear hK K
          have hbal : Below W4.heap.size W4 (W4.drew.alloc (.cells #[.int .u8 X] 5)) := ((Below.refl _ W4).drew).alloc (Nat.le_refl _) _
          have hbcal := (hbal.cell (p := ⟨w.heap.size, 0, none⟩) hbxW4.lt).trans hbcW4
          have hbcal2 : (W4.alloc (.cells #[.int .u8 X] 5)).cell? ⟨w.heap.size, 0, none⟩ = some (.slice A2 R2.length c2) := hbcal
          refine wpAnyH_ready (rs := [0]) (by kernel_rfl) (by simp) ?_
          refine AllReadyH.cons (o := ⟨some 14, _, _, _, _, _⟩) rfl (fun K hK => ?_) AllReadyH.nil
          go_simp
          refine hK.out _ _ trivial (fun _ => ?_)
          clear hK K
          refine wpAnyH_ready (rs := [5]) (by kernel_rfl) (by simp) ?_
          refine AllReadyH.cons (o := ⟨some 19, _, _, _, _, _⟩) rfl (fun K hK => ?_) AllReadyH.nil
          refine step_app rfl (.tmp 14) (.tmp 18) rfl (B := w.heap.size) (l := R2) rfl (hownW4.below hbal) (l2 := [x']) (c := 1) rfl (at_one hX2.out) (by (first | omega | (simp; omega))) (by (first | omega | (simp; omega))) ?_
          intro v3 w3 hown3 hg3
          rw [← HR3.out] at hown3
          obtain ⟨hbx3, hby3, hownn3, hko3, hbb3⟩ := boxed_app hbxW4 hownW4 hbal hleW4 (Nat.le_refl _) hown3 hg3
          have hbc3 := hbx3.cell
          have hbf3 := hbx3.frozen
          obtain ⟨A3, c3, rfl, hA3, hc3, hcm3⟩ := hown3.sl
          refine hK.out _ _ trivial (fun _ => ?_)
          clear hK K
          refine wpAnyH_ready (rs := [6]) (by kernel_rfl) (by simp) ?_
          refine AllReadyH.cons (o := ⟨none, _, _, _, _, _⟩) rfl (fun K hK => ?_) AllReadyH.nil
          go_simp
          refine hK.out _ _ trivial (fun _ => ?_)
          clear hK K
          refine wpAnyH_done (by kernel_rfl) ?_ _
          refine RoundR.Calm.normal ?_
          gi_wp2
          exact ⟨hkoW4.trans hko3, hbbW4.trans hbb3, ⟨_, hby3, HR4.out ▸ hownn3, trivial⟩, hB.trans (hbbW4.trans hbb3)⟩
  case done =>
    rintro D ys W hD hS ⟨⟨v, hbx, hrow, _⟩, hB⟩ hK
    have hown : BytesW.Own W w.heap.size v (putR l) := by
      have e : putPre ys = putR l := by rw [putPre, hS]; rfl
      rw [← e]
      exact hrow
    have hbc := hbx.cell
    have hbf := hbx.frozen
    have HO := Lib.hid hown
    obtain ⟨A1, c1, rfl, hA1, hc1, hcm1⟩ := hown.sl
    go_wp2_with fail
    refine ⟨by simp, .inl ⟨_, _, rfl, run_takeDeferred hK, ?_⟩⟩
    have hsB := hB.size
    refine ⟨.slice A1 (putR l).length c1, ?_, _, rfl, ownsRow_putObj HO.out _ hK rfl, hB.trans (belowK_b (w := w) (Nat.le_refl _) W D _ _ (by omega) hK rfl rfl)⟩
    simp [results, Tryd.results25, go_sem]
  case stop =>
    rintro D c pre W _ _ h _
    exact h.elim
end RunsW
end Go.Proofs.YtdboebokjkkgkaaDoor
