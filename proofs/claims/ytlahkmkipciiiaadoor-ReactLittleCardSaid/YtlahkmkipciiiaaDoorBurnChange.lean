/-
  The closure that makes a change of a deed, and counts what becomes movable.
-/
import Derived.Test.YtlahkmkipciiiaaDoorBurnIdx
import Derived.Test.YtlahkmkipciiiaaDoorBurnSound
import Derived.Test.YtlahkmkipciiiaaDoorBitsP
namespace Go.Proofs.YtlahkmkipciiiaaDoor
open Go.RowKit
set_option linter.unusedVariables false
set_option linter.unusedSimpArgs false
namespace BurnW
open BlkP RowG FrS PushG CellsW NearW BurnP
abbrev TP : TypeId := 59
theorem blk_ne {w : World} {b c : Nat} {T U : TypeId} {vs us : List Value} (h : Blk w b T vs) (k : Blk w c U us) (hT : T ≠ U) : b ≠ c := fun e => by
  subst e
  have := h.symm.trans k
  injection this with this
  injection this with _ h2
  exact hT h2
section
variable {w0 : World} {ops : Array Oper} {o : Oper} {a : Act} {Q : Exit → Act → World → Prop} {W : World}
/-- append(v, x) as one operation of a region. -/
theorem step_pushX {K : Act → World → Prop} {E : Prop} (hgd : o.guard = none) (s x : Operand) (ho : o.op = .call { callee := .builtin .append, args := #[s, x], argTypes := #[TXS, TXS] }) {B : Nat} {v : Value} {l : List (Nat × Cl)} {y : Nat × Cl} {n : Nat}
    (hW : W = w0.alloc (.cells #[.int .i64 (y.1 : Int), .int .u8 (y.2.1 : Int), .int .u8 (y.2.2 : Int)] TX)) (hs : a.eval s = v) (hown : RowG.Own encX TX w0 B v l) {g0 : Nat} (hx : a.eval x = .slice (some ⟨g0, 0, none⟩) 1 1) (hg0 : g0 = w0.heap.size) (hn : l.length = n) (hl : n ≤ 1000000) (hB : B ≤ w0.heap.size)
    (h : ∀ g c w', Pushed encX TX w0 B v l y (n + 1) g c w' → K (a.put o.dst (.slice (some ⟨g, 0, none⟩) (n + 1) c)) w') : if Region.wanted o (yielded ops a.tmps) = true then Oper.wp Tryd.prog o a W K Q else E := by
  subst hW hn hg0
  have hw : Region.wanted o (yielded ops a.tmps) = true := by simp [Region.wanted, hgd]
  rw [if_pos hw]
  obtain ⟨g, cp, w', hr, h2, h3, h4⟩ := run_pushG encX underXS infoX rfl (by decide) (by decide) (y := y) (c := #[.int .i64 (y.1 : Int), .int .u8 (y.2.1 : Int), .int .u8 (y.2.2 : Int)]) rfl hown hl hB o.type
  unfold Oper.wp execOp
  simp only [ho, resolve, invoke, builtin, Sem.run_bind, Sem.run_pure, Result.andThen_ok, List.map_toArray, List.map_cons, List.map_nil, hs, hx, hr]
  refine h g cp w' ⟨h2, h3, ?_⟩
  rcases h4 with q | ⟨g', q, hg⟩
  · exact .inl q.symm
  · have : g = g' := by simpa [Value.ownBlock] using q
    subst this
    exact .inr hg
end
theorem wrB {x y : Int} (hx : 0 ≤ x ∧ x ≤ 1) (hy : 0 ≤ y ∧ y ≤ 1) : IntKind.i64.wrap (x - y) = x - y := BitsP.wrapI_small (by omega) (by omega)
theorem tab_frB {w w' : World} {bd : Nat} (h : KindW.Tab w) (hf : Fr (fun k => k = bd) w w') (hne : 0 ≠ bd) : KindW.Tab w' :=
  ⟨fun k hk => (hf.cell (p := ⟨0, _, none⟩) h.size hne).trans (h.name k hk), fun k hk => (hf.cell (p := ⟨0, _, none⟩) h.size hne).trans (h.least k hk),
    fun k hk => (hf.cell (p := ⟨0, _, none⟩) h.size hne).trans (h.most k hk), fun k hk => (hf.cell (p := ⟨0, _, none⟩) h.size hne).trans (h.trait k hk), Nat.lt_of_lt_of_le h.size hf.size⟩
/-- What a change leaves of a deed without one: the change, its count; all else stays. -/
def ChP (w : World) (bd : Nat) (x : Nat × Cl) (dl : Int) (e : Ending) (w' : World) : Prop :=
  e = .returned (.tuple #[]) ∧ ∃ v, RowG.Own encX TX w' w.heap.size v [x] ∧ Blk w' bd TD [v, .int .i64 0, .int .i64 dl] ∧ Fr (fun k => k = bd) w w'
set_option maxRecDepth 100000 in
set_option maxHeartbeats 16000000 in
theorem change_c {w : World} {bn bp bd d k m ko lo : Nat} {n : Nr} {x1 x2 : Int} (hT : KindW.Tab w) (hN : Blk w bn TN (vals n)) (hP : Blk w bp TP [.pointer (some ⟨bd, 0, none⟩)]) (hD : Blk w bd TD [.slice none 0 0, .int .i64 0, .int .i64 0]) (hd : d ≤ 6)
    (hold : (if d = 0 then n.s else n.sd (d - 1)) = (ko, lo)) (h1 : mv k = x1) (h2 : mv ko = x2) :
    Calls Tryd.prog 71 #[.int .i64 (d : Int), .agg #[.int .u8 (k : Int), .int .u8 (m : Int)], .pointer (some ⟨bn, 0, none⟩), .pointer (some ⟨bp, 0, none⟩)] w (ChP w bd (d, (k, m)) (x1 - x2)) := by
  have HT := Lib.hid hT
  have HN := Lib.hid hN
  have HP := Lib.hid hP
  have HD := Lib.hid hD
  have H1 := Lib.hid h1
  have H2 := Lib.hid h2
  have b1 := mv_le k
  have b2 := mv_le ko
  rw [h1] at b1
  rw [h2] at b2
  have HPD := Lib.hid (blk_ne hP hD (by decide))
  have HND := Lib.hid (blk_ne hN hD (by decide))
  have HTD := Lib.hid (show 0 ≠ bd from fun e => by
    subst e
    have q := hT.name 0 (by omega)
    have r := hD.cell (i := 0) rfl
    exact absurd (r.symm.trans q) (by simp))
  have ln := hN.lt
  have lp := hP.lt
  have ld := hD.lt
  obtain ⟨bc, hbc⟩ : ∃ b, w.heap.size = b := ⟨_, rfl⟩
  have HS := Lib.hid hbc
  have HLT := Lib.hid (show bn < bc ∧ bp < bc ∧ bd < bc by omega)
  rw [hbc] at ln lp ld
  by_cases h0 : d = 0
  · have hd0 : ((d : Int) == 0) = true := by simp; omega
    have hs : n.s = (ko, lo) := by rw [← hold, if_pos h0]
    have c0 := hN.cell (i := 0) (g_kind n)
    have c1 := hN.cell (i := 1) (g_lev n)
    rw [hs] at c0 c1
    simp only at c0 c1
    have hdn : ((d : Int) != 0) = false := by simp; omega
    clear hT hN hP hD h1 h2 hold h0 hs
    go_enter Tryd.func71, Tryd.ntmps71
    go_wp2_with fail
    refine HeldP.wp_named (S := fun W => Fr (fun k => k = bd) w W ∧ Blk W bp TP [.pointer (some ⟨bd, 0, none⟩)] ∧ Blk W bc TC [.int .u8 (k : Int), .int .u8 (m : Int)] ∧ Blk W (bc + 1) TC [.int .u8 (ko : Int), .int .u8 (lo : Int)] ∧ Blk W bd TD [.slice none 0 0, .int .i64 0, .int .i64 0]) ⟨?_, ?_, ?_, ?_, ?_⟩ ?_
    · exact (show Fr (fun k => k = bd) w _ from Fr.below _ (by subst hbc; (repeat' (first | (with_reducible exact Below.refl _ _) | (with_reducible refine Below.setCell ?_ (by (first | omega | (simp; done) | (simp; omega))) _) | (with_reducible refine Below.alloc ?_ (by (first | omega | (simp; done) | (simp; omega))) _) | (with_reducible refine Below.drew ?_) | (with_reducible refine below_drewN ?_ _)))))
    · (repeat' (first | (with_reducible exact HP.out) | (with_reducible refine BlkP.Blk.drew ?_) | (with_reducible refine BlkP.Blk.drewN ?_ _) | (with_reducible refine BlkP.Blk.setAt (us := ?_) (by first | omega | (simp; done) | (simp; omega)) rfl ?_ ?_) | (with_reducible refine BlkP.Blk.otherAt ?_ (by first | omega | (simp; done) | (simp; omega))) | (with_reducible refine BlkP.Blk.newA' (by first | omega | (simp; done) | (simp; omega)) rfl) | (with_reducible refine BlkP.Blk.alloc ?_ _) | (exact rfl)))
    · subst hbc; (repeat' (first | (with_reducible refine BlkP.Blk.drew ?_) | (with_reducible refine BlkP.Blk.drewN ?_ _) | (with_reducible refine BlkP.Blk.setAt (us := ?_) (by first | omega | (simp; done) | (simp; omega)) rfl ?_ ?_) | (with_reducible refine BlkP.Blk.otherAt ?_ (by first | omega | (simp; done) | (simp; omega))) | (with_reducible refine BlkP.Blk.newA' (by first | omega | (simp; done) | (simp; omega)) rfl) | (with_reducible refine BlkP.Blk.alloc ?_ _) | (exact rfl)))
    · subst hbc; (repeat' (first | (with_reducible refine BlkP.Blk.drew ?_) | (with_reducible refine BlkP.Blk.drewN ?_ _) | (with_reducible refine BlkP.Blk.setAt (us := ?_) (by first | omega | (simp; done) | (simp; omega)) rfl ?_ ?_) | (with_reducible refine BlkP.Blk.otherAt ?_ (by first | omega | (simp; done) | (simp; omega))) | (with_reducible refine BlkP.Blk.newA' (by first | omega | (simp; done) | (simp; omega)) rfl) | (with_reducible refine BlkP.Blk.alloc ?_ _) | (exact rfl)))
    · (repeat' (first | (with_reducible exact HD.out) | (with_reducible refine BlkP.Blk.drew ?_) | (with_reducible refine BlkP.Blk.drewN ?_ _) | (with_reducible refine BlkP.Blk.setAt (us := ?_) (by first | omega | (simp; done) | (simp; omega)) rfl ?_ ?_) | (with_reducible refine BlkP.Blk.otherAt ?_ (by first | omega | (simp; done) | (simp; omega))) | (with_reducible refine BlkP.Blk.newA' (by first | omega | (simp; done) | (simp; omega)) rfl) | (with_reducible refine BlkP.Blk.alloc ?_ _) | (exact rfl)))
    rintro wn ⟨hfr, kp, kc, ko', kd'⟩
    have KF := Lib.hid hfr
    have KP := Lib.hid kp
    have KC := Lib.hid kc
    have KO := Lib.hid ko'
    have KD := Lib.hid kd'
    have HCD := Lib.hid (blk_ne kc kd' (by decide))
    have HOD := Lib.hid (blk_ne ko' kd' (by decide))
    have hzn := hfr.size
    clear hfr kp kc ko' kd'
    refine wp_region_noPanic ?_
    refine wp_region_held_drew (S := fun Xw => Fr (fun k => k = bd) wn Xw) (by kernel_rfl) ((Fr.refl _ wn).drew) (fun hHeld => ?_)
    refine wpAnyH_take (i := 0) (oi := ⟨some 16, _, _, _, _, _⟩) (v := .pointer (some ⟨bd, 0, none⟩)) rfl (by kernel_rfl) (by kernel_rfl) (by kernel_rfl) (fun _ _ _ h => h) (Or.inl ⟨by rfl, fun Xw hSW => by have q := (hSW.blk KP.out HPD.out).cell (i := 0) rfl; go_simp⟩) hHeld ?_
    simp only [Act.put, List.setIfInBounds_toArray, List.set_cons_zero, List.set_cons_succ]
    refine wpAnyH_take (i := 1) (oi := ⟨some 17, _, _, _, _, _⟩) (v := .pointer (some ⟨bd, 0, none⟩)) rfl (by kernel_rfl) (by kernel_rfl) (by kernel_rfl) (fun _ _ _ h => h) (Or.inl ⟨by rfl, fun Xw hSW => by have q := (hSW.blk KP.out HPD.out).cell (i := 0) rfl; go_simp⟩) hHeld ?_
    simp only [Act.put, List.setIfInBounds_toArray, List.set_cons_zero, List.set_cons_succ]
    refine wpAnyH_take (i := 2) (oi := ⟨some 18, _, _, _, _, _⟩) (v := .pointer (some ⟨bd, 0, none⟩)) rfl (by kernel_rfl) (by kernel_rfl) (by kernel_rfl) (fun _ _ _ h => h) (Or.inl ⟨by rfl, fun Xw hSW => by go_simp⟩) hHeld ?_
    simp only [Act.put, List.setIfInBounds_toArray, List.set_cons_zero, List.set_cons_succ]
    refine wpAnyH_take (i := 3) (oi := ⟨some 19, _, _, _, _, _⟩) (v := .pointer (some ⟨bd, 0, none⟩)) rfl (by kernel_rfl) (by kernel_rfl) (by kernel_rfl) (fun _ _ _ h => h) (Or.inl ⟨by rfl, fun Xw hSW => by go_simp⟩) hHeld ?_
    simp only [Act.put, List.setIfInBounds_toArray, List.set_cons_zero, List.set_cons_succ]
    refine wpAnyH_take (i := 5) (oi := ⟨some 21, _, _, _, _, _⟩) (v := .int .i64 (d : Int)) rfl (by kernel_rfl) (by kernel_rfl) (by kernel_rfl) (fun _ _ _ h => h) (Or.inl ⟨by rfl, fun Xw hSW => by go_simp⟩) hHeld ?_
    simp only [Act.put, List.setIfInBounds_toArray, List.set_cons_zero, List.set_cons_succ]
    refine wpAnyH_take (i := 6) (oi := ⟨some 22, _, _, _, _, _⟩) (v := .agg #[.int .u8 (k : Int), .int .u8 (m : Int)]) rfl (by kernel_rfl) (by kernel_rfl) (by kernel_rfl) (fun _ _ _ h => h) (Or.inl ⟨by rfl, fun Xw hSW => by have q := (hSW.blk KC.out HCD.out).cell (i := 0) rfl; have q2 := (hSW.blk KC.out HCD.out).cell (i := 1) rfl; go_simp⟩) hHeld ?_
    simp only [Act.put, List.setIfInBounds_toArray, List.set_cons_zero, List.set_cons_succ]
    refine wpAnyH_take (i := 7) (oi := ⟨some 23, _, _, _, _, _⟩) (v := .agg #[.int .i64 (d : Int), .int .u8 (k : Int), .int .u8 (m : Int)]) rfl (by kernel_rfl) (by kernel_rfl) (by kernel_rfl) (fun _ _ _ h => h) (Or.inl ⟨by rfl, fun Xw hSW => by go_simp⟩) hHeld ?_
    simp only [Act.put, List.setIfInBounds_toArray, List.set_cons_zero, List.set_cons_succ]
    refine wpAnyH_ready (rs := [4, 8]) (by kernel_rfl) (by simp) ?_
    refine AllReadyH.cons (o := ⟨some 20, _, _, _, _, _⟩) rfl (fun K hK => ?_) (AllReadyH.cons (o := ⟨some 24, _, _, _, _, _⟩) rfl (fun K hK => ?_) AllReadyH.nil)
    · have e0 := KD.out.cell (i := 0) rfl
      go_simp
      refine hK.out _ _ (hHeld) (fun hHeld => ?_)
      clear hK K
      refine wpAnyH_ready (rs := [8]) (by kernel_rfl) (by simp) ?_
      refine AllReadyH.cons (o := ⟨some 24, _, _, _, _, _⟩) rfl (fun K hK => ?_) AllReadyH.nil
      go_simp
      refine hK.out _ _ (Fr.trans hHeld (Fr.alloc _ _ _) (fun i hi => .inl hi)) (fun hHeld => ?_)
      clear hK K e0
      refine wpAnyH_ready (rs := [9]) (by kernel_rfl) (by simp) ?_
      refine AllReadyH.cons (o := ⟨some 25, _, _, _, _, _⟩) rfl (fun K hK => ?_) AllReadyH.nil
      refine step_pushX (w0 := wn.drew) (B := wn.heap.size) (v := .slice none 0 0) (l := []) (y := (d, (k, m))) (n := 0) rfl (.tmp 20) (.tmp 24) rfl rfl rfl (Own.nil _ _ _ _) rfl (by simp) rfl (by omega) (by simp) ?_
      intro g c w5 hpu
      have HPU := Lib.hid hpu.1
      have hfr : Fr (fun k => k = bd) wn w5 := (Fr.refl _ wn).drew.trans (Fr.grown (S := fun k => k = bd) (w := wn.drew) hpu.2.1 (fun i hi => by cases hi)) (fun i hi => .inl hi)
      have HFR := Lib.hid hfr
      have hge5 : wn.heap.size ≤ g := by
        rcases hpu.2.2 with q | q
        · cases q
        · simpa using q
      have HD5 := Lib.hid (show Blk w5 bd TD [.slice none 0 0, .int .i64 0, .int .i64 0] from (KD.out.grown (w := wn.drew) (w' := w5) (r := none) hpu.2.1 (by simp)))
      clear hpu
      refine hK.out _ _ hfr (fun hHeld => ?_)
      clear hK K hfr
      refine wpAnyH_take (i := 10) (oi := ⟨some 26, _, _, _, _, _⟩) (v := .pointer (some ⟨bd, 0, none⟩)) rfl (by kernel_rfl) (by kernel_rfl) (by kernel_rfl) (fun _ _ _ h => h) (Or.inl ⟨by rfl, fun Xw hSW => by go_simp⟩) hHeld ?_
      simp only [Act.put, List.setIfInBounds_toArray, List.set_cons_zero, List.set_cons_succ]
      refine wpAnyH_take (i := 11) (oi := ⟨some 27, _, _, _, _, _⟩) (v := .pointer (some ⟨bd, 0, none⟩)) rfl (by kernel_rfl) (by kernel_rfl) (by kernel_rfl) (fun _ _ _ h => h) (Or.inl ⟨by rfl, fun Xw hSW => by go_simp⟩) hHeld ?_
      simp only [Act.put, List.setIfInBounds_toArray, List.set_cons_zero, List.set_cons_succ]
      have f0 := HD5.out.frozen 0
      have e0 := HD5.out.cell (i := 0) rfl
      refine wpAnyH_ready (rs := [12]) (by kernel_rfl) (by simp) ?_
      refine AllReadyH.cons (o := ⟨none, _, _, _, _, _⟩) rfl (fun K hK => ?_) AllReadyH.nil
      go_simp
      refine hK.out _ _ (HFR.out.trans (Fr.set (fun k => k = bd) _ _ _ rfl) (fun i hi => .inl hi)) (fun hHeld => ?_)
      clear hK K
      refine wpAnyH_done (by kernel_rfl) ?_ _
      refine NoPanic.normal ?_
      go_wp2_with fail
      refine HeldP.wp_named (S := fun W => Fr (fun k => k = bd) wn W ∧ Blk W bp TP [.pointer (some ⟨bd, 0, none⟩)] ∧ Blk W bc TC [.int .u8 (k : Int), .int .u8 (m : Int)] ∧ Blk W (bc + 1) TC [.int .u8 (ko : Int), .int .u8 (lo : Int)] ∧ Blk W bd TD [.slice (some ⟨g, 0, none⟩) 1 c, .int .i64 0, .int .i64 0] ∧ RowG.Own encX TX W wn.heap.size (.slice (some ⟨g, 0, none⟩) 1 c) [(d, (k, m))]) ⟨hHeld, hHeld.blk KP.out HPD.out, hHeld.blk KC.out HCD.out, hHeld.blk KO.out HOD.out, HD5.out.set 0 _, HPU.out.grown (grown_set _ bd 0 _) (.inr (own_ne HPU.out HD5.out (by decide)))⟩ ?_
      clear hHeld e0 f0
      rintro wm ⟨hfm, mp, mc, mo, md, mr⟩
      have MF := Lib.hid (KF.out.trans hfm (fun i hi => .inl hi))
      have MP := Lib.hid mp
      have MC := Lib.hid mc
      have MO := Lib.hid mo
      have MD := Lib.hid md
      have MR := Lib.hid mr
      have MZ := Lib.hid (show w.heap.size ≤ wn.heap.size from KF.out.size)
      have HTM := Lib.hid (show KindW.Tab wm from tab_frB HT.out MF.out HTD.out)
      clear hfm mp mc mo md mr
      refine wp_region_noPanic ?_
      refine wp_region_held_drew (S := fun Xw => Fr (fun k => k = bd) wm Xw) (by kernel_rfl) ((Fr.refl _ wm).drew) (fun hHeld => ?_)
      refine wpAnyH_take (i := 0) (oi := ⟨some 28, _, _, _, _, _⟩) (v := .pointer (some ⟨bd, 0, none⟩)) rfl (by kernel_rfl) (by kernel_rfl) (by kernel_rfl) (fun _ _ _ h => h) (Or.inl ⟨by rfl, fun Xw hSW => by have q := (hSW.blk MP.out HPD.out).cell (i := 0) rfl; go_simp⟩) hHeld ?_
      simp only [Act.put, List.setIfInBounds_toArray, List.set_cons_zero, List.set_cons_succ]
      refine wpAnyH_take (i := 1) (oi := ⟨some 29, _, _, _, _, _⟩) (v := .pointer (some ⟨bd, 0, none⟩)) rfl (by kernel_rfl) (by kernel_rfl) (by kernel_rfl) (fun _ _ _ h => h) (Or.inl ⟨by rfl, fun Xw hSW => by go_simp⟩) hHeld ?_
      simp only [Act.put, List.setIfInBounds_toArray, List.set_cons_zero, List.set_cons_succ]
      refine wpAnyH_take (i := 2) (oi := ⟨some 30, _, _, _, _, _⟩) (v := .pointer (some ⟨bd, 2, none⟩)) rfl (by kernel_rfl) (by kernel_rfl) (by kernel_rfl) (fun _ _ _ h => h) (Or.inl ⟨by rfl, fun Xw hSW => by go_simp⟩) hHeld ?_
      simp only [Act.put, List.setIfInBounds_toArray, List.set_cons_zero, List.set_cons_succ]
      refine wpAnyH_take (i := 4) (oi := ⟨some 32, _, _, _, _, _⟩) (v := .agg #[.int .u8 (k : Int), .int .u8 (m : Int)]) rfl (by kernel_rfl) (by kernel_rfl) (by kernel_rfl) (fun _ _ _ h => h) (Or.inl ⟨by rfl, fun Xw hSW => by have q := (hSW.blk MC.out HCD.out).cell (i := 0) rfl; have q2 := (hSW.blk MC.out HCD.out).cell (i := 1) rfl; go_simp⟩) hHeld ?_
      simp only [Act.put, List.setIfInBounds_toArray, List.set_cons_zero, List.set_cons_succ]
      refine wpAnyH_take (i := 6) (oi := ⟨some 34, _, _, _, _, _⟩) (v := .agg #[.int .u8 (ko : Int), .int .u8 (lo : Int)]) rfl (by kernel_rfl) (by kernel_rfl) (by kernel_rfl) (fun _ _ _ h => h) (Or.inl ⟨by rfl, fun Xw hSW => by have q := (hSW.blk MO.out HOD.out).cell (i := 0) rfl; have q2 := (hSW.blk MO.out HOD.out).cell (i := 1) rfl; go_simp⟩) hHeld ?_
      simp only [Act.put, List.setIfInBounds_toArray, List.set_cons_zero, List.set_cons_succ]
      refine wpAnyH_ready (rs := [3, 5]) (by kernel_rfl) (by simp) ?_
      refine AllReadyH.cons (o := ⟨some 31, _, _, _, _, _⟩) rfl (fun K hK => ?_) (AllReadyH.cons (o := ⟨some 33, _, _, _, _, _⟩) rfl (fun K hK => ?_) AllReadyH.nil)
      · have e2 := MD.out.cell (i := 2) rfl
        go_simp
        refine hK.out _ _ hHeld (fun hHeld => ?_)
        clear hK K e2
        refine wpAnyH_ready (rs := [5]) (by kernel_rfl) (by simp) ?_
        refine AllReadyH.cons (o := ⟨some 33, _, _, _, _, _⟩) rfl (fun K hK => ?_) AllReadyH.nil
        go_simp
        refine (movables_c (HTM.out.below (Below.refl _ wm).drew) H1.out).mono ?_
        rintro e y1 ⟨rfl, hb⟩
        have hby1 := below_t (Below.refl _ wm).drew hb
        have HY1 := Lib.hid hby1
        have hDY1 := MD.out.below hby1
        go_wp2_with fail
        refine hK.out _ _ (Fr.trans hHeld (Fr.below _ hb) (fun i hi => .inl hi)) (fun hHeld => ?_)
        clear hK K hb hby1
        refine wpAnyH_ready (rs := [7]) (by kernel_rfl) (by simp) ?_
        refine AllReadyH.cons (o := ⟨some 35, _, _, _, _, _⟩) rfl (fun K hK => ?_) AllReadyH.nil
        go_simp
        refine (movables_c (HTM.out.below HY1.out) H2.out).mono ?_
        rintro e y2 ⟨rfl, hb⟩
        have hby2 := below_t HY1.out hb
        have HY2 := Lib.hid hby2
        have hDY2 := MD.out.below hby2
        go_wp2_with fail
        refine hK.out _ _ (Fr.trans hHeld (Fr.below _ hb) (fun i hi => .inl hi)) (fun hHeld => ?_)
        clear hK K hb hby2
        refine wpAnyH_take (i := 8) (oi := ⟨some 36, _, _, _, _, _⟩) (v := .int .i64 (x1 - x2)) rfl (by kernel_rfl) (by kernel_rfl) (by kernel_rfl) (fun _ _ _ h => h) (Or.inl ⟨by rfl, fun Xw hSW => by have q := wrB b1 b2; go_simp; first | done | exact q | (trace_state; fail)⟩) hHeld ?_
        simp only [Act.put, List.setIfInBounds_toArray, List.set_cons_zero, List.set_cons_succ]
        refine wpAnyH_take (i := 9) (oi := ⟨some 37, _, _, _, _, _⟩) (v := .int .i64 (x1 - x2)) rfl (by kernel_rfl) (by kernel_rfl) (by kernel_rfl) (fun _ _ _ h => h) (Or.inl ⟨by rfl, fun Xw hSW => by have q := wrB b1 b2; go_simp; first | done | exact q | (trace_state; fail)⟩) hHeld ?_
        simp only [Act.put, List.setIfInBounds_toArray, List.set_cons_zero, List.set_cons_succ]
        refine wpAnyH_take (i := 10) (oi := ⟨some 38, _, _, _, _, _⟩) (v := .pointer (some ⟨bd, 0, none⟩)) rfl (by kernel_rfl) (by kernel_rfl) (by kernel_rfl) (fun _ _ _ h => h) (Or.inl ⟨by rfl, fun Xw hSW => by go_simp⟩) hHeld ?_
        simp only [Act.put, List.setIfInBounds_toArray, List.set_cons_zero, List.set_cons_succ]
        refine wpAnyH_take (i := 11) (oi := ⟨some 39, _, _, _, _, _⟩) (v := .pointer (some ⟨bd, 2, none⟩)) rfl (by kernel_rfl) (by kernel_rfl) (by kernel_rfl) (fun _ _ _ h => h) (Or.inl ⟨by rfl, fun Xw hSW => by go_simp⟩) hHeld ?_
        simp only [Act.put, List.setIfInBounds_toArray, List.set_cons_zero, List.set_cons_succ]
        have f2 := hDY2.frozen 2
        have e2 := hDY2.cell (i := 2) rfl
        refine wpAnyH_ready (rs := [12]) (by kernel_rfl) (by simp) ?_
        refine AllReadyH.cons (o := ⟨none, _, _, _, _, _⟩) rfl (fun K hK => ?_) AllReadyH.nil
        go_simp
        refine hK.out _ _ (Fr.trans hHeld (Fr.set (fun k => k = bd) _ _ _ rfl) (fun i hi => .inl hi)) (fun hHeld => ?_)
        clear hK K
        refine wpAnyH_done (by kernel_rfl) ?_ _
        refine NoPanic.normal ?_
        clear f2 e2
        go_wp2_with fail
        go_end0
        refine ⟨rfl, _, ?_, hDY2.set 2 _, ?_⟩
        · exact ((MR.out.below HY2.out).grown (grown_set _ bd 2 _) (.inr (own_ne (MR.out.below HY2.out) hDY2 (by decide)))).mono (by have := HS.out; have := MZ.out; omega)
        · exact (MF.out.trans hHeld (fun i hi => .inl hi))
      · go_simp
        refine (movables_c (HTM.out.below (Below.refl _ wm).drew) H1.out).mono ?_
        rintro e y3 ⟨rfl, hb⟩
        have hby3 := below_t (Below.refl _ wm).drew hb
        have HY3 := Lib.hid hby3
        have hDY3 := MD.out.below hby3
        go_wp2_with fail
        refine hK.out _ _ (Fr.trans hHeld (Fr.below _ hb) (fun i hi => .inl hi)) (fun hHeld => ?_)
        clear hK K hb hby3
        refine wpAnyH_ready (rs := [3, 7]) (by kernel_rfl) (by simp) ?_
        refine AllReadyH.cons (o := ⟨some 31, _, _, _, _, _⟩) rfl (fun K hK => ?_) (AllReadyH.cons (o := ⟨some 35, _, _, _, _, _⟩) rfl (fun K hK => ?_) AllReadyH.nil)
        · have e2 := hDY3.cell (i := 2) rfl
          go_simp
          refine hK.out _ _ hHeld (fun hHeld => ?_)
          clear hK K e2
          refine wpAnyH_ready (rs := [7]) (by kernel_rfl) (by simp) ?_
          refine AllReadyH.cons (o := ⟨some 35, _, _, _, _, _⟩) rfl (fun K hK => ?_) AllReadyH.nil
          go_simp
          refine (movables_c (HTM.out.below HY3.out) H2.out).mono ?_
          rintro e y4 ⟨rfl, hb⟩
          have hby4 := below_t HY3.out hb
          have HY4 := Lib.hid hby4
          have hDY4 := MD.out.below hby4
          go_wp2_with fail
          refine hK.out _ _ (Fr.trans hHeld (Fr.below _ hb) (fun i hi => .inl hi)) (fun hHeld => ?_)
          clear hK K hb hby4
          refine wpAnyH_take (i := 8) (oi := ⟨some 36, _, _, _, _, _⟩) (v := .int .i64 (x1 - x2)) rfl (by kernel_rfl) (by kernel_rfl) (by kernel_rfl) (fun _ _ _ h => h) (Or.inl ⟨by rfl, fun Xw hSW => by have q := wrB b1 b2; go_simp; first | done | exact q | (trace_state; fail)⟩) hHeld ?_
          simp only [Act.put, List.setIfInBounds_toArray, List.set_cons_zero, List.set_cons_succ]
          refine wpAnyH_take (i := 9) (oi := ⟨some 37, _, _, _, _, _⟩) (v := .int .i64 (x1 - x2)) rfl (by kernel_rfl) (by kernel_rfl) (by kernel_rfl) (fun _ _ _ h => h) (Or.inl ⟨by rfl, fun Xw hSW => by have q := wrB b1 b2; go_simp; first | done | exact q | (trace_state; fail)⟩) hHeld ?_
          simp only [Act.put, List.setIfInBounds_toArray, List.set_cons_zero, List.set_cons_succ]
          refine wpAnyH_take (i := 10) (oi := ⟨some 38, _, _, _, _, _⟩) (v := .pointer (some ⟨bd, 0, none⟩)) rfl (by kernel_rfl) (by kernel_rfl) (by kernel_rfl) (fun _ _ _ h => h) (Or.inl ⟨by rfl, fun Xw hSW => by go_simp⟩) hHeld ?_
          simp only [Act.put, List.setIfInBounds_toArray, List.set_cons_zero, List.set_cons_succ]
          refine wpAnyH_take (i := 11) (oi := ⟨some 39, _, _, _, _, _⟩) (v := .pointer (some ⟨bd, 2, none⟩)) rfl (by kernel_rfl) (by kernel_rfl) (by kernel_rfl) (fun _ _ _ h => h) (Or.inl ⟨by rfl, fun Xw hSW => by go_simp⟩) hHeld ?_
          simp only [Act.put, List.setIfInBounds_toArray, List.set_cons_zero, List.set_cons_succ]
          have f2 := hDY4.frozen 2
          have e2 := hDY4.cell (i := 2) rfl
          refine wpAnyH_ready (rs := [12]) (by kernel_rfl) (by simp) ?_
          refine AllReadyH.cons (o := ⟨none, _, _, _, _, _⟩) rfl (fun K hK => ?_) AllReadyH.nil
          go_simp
          refine hK.out _ _ (Fr.trans hHeld (Fr.set (fun k => k = bd) _ _ _ rfl) (fun i hi => .inl hi)) (fun hHeld => ?_)
          clear hK K
          refine wpAnyH_done (by kernel_rfl) ?_ _
          refine NoPanic.normal ?_
          clear f2 e2
          go_wp2_with fail
          go_end0
          refine ⟨rfl, _, ?_, hDY4.set 2 _, ?_⟩
          · exact ((MR.out.below HY4.out).grown (grown_set _ bd 2 _) (.inr (own_ne (MR.out.below HY4.out) hDY4 (by decide)))).mono (by have := HS.out; have := MZ.out; omega)
          · exact (MF.out.trans hHeld (fun i hi => .inl hi))
        · go_simp
          refine (movables_c (HTM.out.below HY3.out) H2.out).mono ?_
          rintro e y5 ⟨rfl, hb⟩
          have hby5 := below_t HY3.out hb
          have HY5 := Lib.hid hby5
          have hDY5 := MD.out.below hby5
          go_wp2_with fail
          refine hK.out _ _ (Fr.trans hHeld (Fr.below _ hb) (fun i hi => .inl hi)) (fun hHeld => ?_)
          clear hK K hb hby5
          refine wpAnyH_take (i := 8) (oi := ⟨some 36, _, _, _, _, _⟩) (v := .int .i64 (x1 - x2)) rfl (by kernel_rfl) (by kernel_rfl) (by kernel_rfl) (fun _ _ _ h => h) (Or.inl ⟨by rfl, fun Xw hSW => by have q := wrB b1 b2; go_simp; first | done | exact q | (trace_state; fail)⟩) hHeld ?_
          simp only [Act.put, List.setIfInBounds_toArray, List.set_cons_zero, List.set_cons_succ]
          refine wpAnyH_ready (rs := [3]) (by kernel_rfl) (by simp) ?_
          refine AllReadyH.cons (o := ⟨some 31, _, _, _, _, _⟩) rfl (fun K hK => ?_) AllReadyH.nil
          have e2 := hDY5.cell (i := 2) rfl
          go_simp
          refine hK.out _ _ hHeld (fun hHeld => ?_)
          clear hK K e2
          refine wpAnyH_take (i := 9) (oi := ⟨some 37, _, _, _, _, _⟩) (v := .int .i64 (x1 - x2)) rfl (by kernel_rfl) (by kernel_rfl) (by kernel_rfl) (fun _ _ _ h => h) (Or.inl ⟨by rfl, fun Xw hSW => by have q := wrB b1 b2; go_simp; first | done | exact q | (trace_state; fail)⟩) hHeld ?_
          simp only [Act.put, List.setIfInBounds_toArray, List.set_cons_zero, List.set_cons_succ]
          refine wpAnyH_take (i := 10) (oi := ⟨some 38, _, _, _, _, _⟩) (v := .pointer (some ⟨bd, 0, none⟩)) rfl (by kernel_rfl) (by kernel_rfl) (by kernel_rfl) (fun _ _ _ h => h) (Or.inl ⟨by rfl, fun Xw hSW => by go_simp⟩) hHeld ?_
          simp only [Act.put, List.setIfInBounds_toArray, List.set_cons_zero, List.set_cons_succ]
          refine wpAnyH_take (i := 11) (oi := ⟨some 39, _, _, _, _, _⟩) (v := .pointer (some ⟨bd, 2, none⟩)) rfl (by kernel_rfl) (by kernel_rfl) (by kernel_rfl) (fun _ _ _ h => h) (Or.inl ⟨by rfl, fun Xw hSW => by go_simp⟩) hHeld ?_
          simp only [Act.put, List.setIfInBounds_toArray, List.set_cons_zero, List.set_cons_succ]
          have f2 := hDY5.frozen 2
          have e2 := hDY5.cell (i := 2) rfl
          refine wpAnyH_ready (rs := [12]) (by kernel_rfl) (by simp) ?_
          refine AllReadyH.cons (o := ⟨none, _, _, _, _, _⟩) rfl (fun K hK => ?_) AllReadyH.nil
          go_simp
          refine hK.out _ _ (Fr.trans hHeld (Fr.set (fun k => k = bd) _ _ _ rfl) (fun i hi => .inl hi)) (fun hHeld => ?_)
          clear hK K
          refine wpAnyH_done (by kernel_rfl) ?_ _
          refine NoPanic.normal ?_
          clear f2 e2
          go_wp2_with fail
          go_end0
          refine ⟨rfl, _, ?_, hDY5.set 2 _, ?_⟩
          · exact ((MR.out.below HY5.out).grown (grown_set _ bd 2 _) (.inr (own_ne (MR.out.below HY5.out) hDY5 (by decide)))).mono (by have := HS.out; have := MZ.out; omega)
          · exact (MF.out.trans hHeld (fun i hi => .inl hi))
    · go_simp
      refine hK.out _ _ (Fr.trans hHeld (Fr.alloc _ _ _) (fun i hi => .inl hi)) (fun hHeld => ?_)
      clear hK K
      have e0 := KD.out.cell (i := 0) rfl
      have l0 := KD.out.lt
      refine wpAnyH_ready (rs := [4]) (by kernel_rfl) (by simp) ?_
      refine AllReadyH.cons (o := ⟨some 20, _, _, _, _, _⟩) rfl (fun K hK => ?_) AllReadyH.nil
      go_simp
      refine hK.out _ _ hHeld (fun hHeld => ?_)
      clear hK K e0 l0
      refine wpAnyH_ready (rs := [9]) (by kernel_rfl) (by simp) ?_
      refine AllReadyH.cons (o := ⟨some 25, _, _, _, _, _⟩) rfl (fun K hK => ?_) AllReadyH.nil
      refine step_pushX (w0 := wn.drew) (B := wn.heap.size) (v := .slice none 0 0) (l := []) (y := (d, (k, m))) (n := 0) rfl (.tmp 20) (.tmp 24) rfl rfl rfl (Own.nil _ _ _ _) rfl (by simp) rfl (by omega) (by simp) ?_
      intro g c w5 hpu
      have HPU := Lib.hid hpu.1
      have hfr : Fr (fun k => k = bd) wn w5 := (Fr.refl _ wn).drew.trans (Fr.grown (S := fun k => k = bd) (w := wn.drew) hpu.2.1 (fun i hi => by cases hi)) (fun i hi => .inl hi)
      have HFR := Lib.hid hfr
      have hge5 : wn.heap.size ≤ g := by
        rcases hpu.2.2 with q | q
        · cases q
        · simpa using q
      have HD5 := Lib.hid (show Blk w5 bd TD [.slice none 0 0, .int .i64 0, .int .i64 0] from (KD.out.grown (w := wn.drew) (w' := w5) (r := none) hpu.2.1 (by simp)))
      clear hpu
      refine hK.out _ _ hfr (fun hHeld => ?_)
      clear hK K hfr
      refine wpAnyH_take (i := 10) (oi := ⟨some 26, _, _, _, _, _⟩) (v := .pointer (some ⟨bd, 0, none⟩)) rfl (by kernel_rfl) (by kernel_rfl) (by kernel_rfl) (fun _ _ _ h => h) (Or.inl ⟨by rfl, fun Xw hSW => by go_simp⟩) hHeld ?_
      simp only [Act.put, List.setIfInBounds_toArray, List.set_cons_zero, List.set_cons_succ]
      refine wpAnyH_take (i := 11) (oi := ⟨some 27, _, _, _, _, _⟩) (v := .pointer (some ⟨bd, 0, none⟩)) rfl (by kernel_rfl) (by kernel_rfl) (by kernel_rfl) (fun _ _ _ h => h) (Or.inl ⟨by rfl, fun Xw hSW => by go_simp⟩) hHeld ?_
      simp only [Act.put, List.setIfInBounds_toArray, List.set_cons_zero, List.set_cons_succ]
      have f0 := HD5.out.frozen 0
      have e0 := HD5.out.cell (i := 0) rfl
      refine wpAnyH_ready (rs := [12]) (by kernel_rfl) (by simp) ?_
      refine AllReadyH.cons (o := ⟨none, _, _, _, _, _⟩) rfl (fun K hK => ?_) AllReadyH.nil
      go_simp
      refine hK.out _ _ (HFR.out.trans (Fr.set (fun k => k = bd) _ _ _ rfl) (fun i hi => .inl hi)) (fun hHeld => ?_)
      clear hK K
      refine wpAnyH_done (by kernel_rfl) ?_ _
      refine NoPanic.normal ?_
      go_wp2_with fail
      refine HeldP.wp_named (S := fun W => Fr (fun k => k = bd) wn W ∧ Blk W bp TP [.pointer (some ⟨bd, 0, none⟩)] ∧ Blk W bc TC [.int .u8 (k : Int), .int .u8 (m : Int)] ∧ Blk W (bc + 1) TC [.int .u8 (ko : Int), .int .u8 (lo : Int)] ∧ Blk W bd TD [.slice (some ⟨g, 0, none⟩) 1 c, .int .i64 0, .int .i64 0] ∧ RowG.Own encX TX W wn.heap.size (.slice (some ⟨g, 0, none⟩) 1 c) [(d, (k, m))]) ⟨hHeld, hHeld.blk KP.out HPD.out, hHeld.blk KC.out HCD.out, hHeld.blk KO.out HOD.out, HD5.out.set 0 _, HPU.out.grown (grown_set _ bd 0 _) (.inr (own_ne HPU.out HD5.out (by decide)))⟩ ?_
      clear hHeld e0 f0
      rintro wm ⟨hfm, mp, mc, mo, md, mr⟩
      have MF := Lib.hid (KF.out.trans hfm (fun i hi => .inl hi))
      have MP := Lib.hid mp
      have MC := Lib.hid mc
      have MO := Lib.hid mo
      have MD := Lib.hid md
      have MR := Lib.hid mr
      have MZ := Lib.hid (show w.heap.size ≤ wn.heap.size from KF.out.size)
      have HTM := Lib.hid (show KindW.Tab wm from tab_frB HT.out MF.out HTD.out)
      clear hfm mp mc mo md mr
      refine wp_region_noPanic ?_
      refine wp_region_held_drew (S := fun Xw => Fr (fun k => k = bd) wm Xw) (by kernel_rfl) ((Fr.refl _ wm).drew) (fun hHeld => ?_)
      refine wpAnyH_take (i := 0) (oi := ⟨some 28, _, _, _, _, _⟩) (v := .pointer (some ⟨bd, 0, none⟩)) rfl (by kernel_rfl) (by kernel_rfl) (by kernel_rfl) (fun _ _ _ h => h) (Or.inl ⟨by rfl, fun Xw hSW => by have q := (hSW.blk MP.out HPD.out).cell (i := 0) rfl; go_simp⟩) hHeld ?_
      simp only [Act.put, List.setIfInBounds_toArray, List.set_cons_zero, List.set_cons_succ]
      refine wpAnyH_take (i := 1) (oi := ⟨some 29, _, _, _, _, _⟩) (v := .pointer (some ⟨bd, 0, none⟩)) rfl (by kernel_rfl) (by kernel_rfl) (by kernel_rfl) (fun _ _ _ h => h) (Or.inl ⟨by rfl, fun Xw hSW => by go_simp⟩) hHeld ?_
      simp only [Act.put, List.setIfInBounds_toArray, List.set_cons_zero, List.set_cons_succ]
      refine wpAnyH_take (i := 2) (oi := ⟨some 30, _, _, _, _, _⟩) (v := .pointer (some ⟨bd, 2, none⟩)) rfl (by kernel_rfl) (by kernel_rfl) (by kernel_rfl) (fun _ _ _ h => h) (Or.inl ⟨by rfl, fun Xw hSW => by go_simp⟩) hHeld ?_
      simp only [Act.put, List.setIfInBounds_toArray, List.set_cons_zero, List.set_cons_succ]
      refine wpAnyH_take (i := 4) (oi := ⟨some 32, _, _, _, _, _⟩) (v := .agg #[.int .u8 (k : Int), .int .u8 (m : Int)]) rfl (by kernel_rfl) (by kernel_rfl) (by kernel_rfl) (fun _ _ _ h => h) (Or.inl ⟨by rfl, fun Xw hSW => by have q := (hSW.blk MC.out HCD.out).cell (i := 0) rfl; have q2 := (hSW.blk MC.out HCD.out).cell (i := 1) rfl; go_simp⟩) hHeld ?_
      simp only [Act.put, List.setIfInBounds_toArray, List.set_cons_zero, List.set_cons_succ]
      refine wpAnyH_take (i := 6) (oi := ⟨some 34, _, _, _, _, _⟩) (v := .agg #[.int .u8 (ko : Int), .int .u8 (lo : Int)]) rfl (by kernel_rfl) (by kernel_rfl) (by kernel_rfl) (fun _ _ _ h => h) (Or.inl ⟨by rfl, fun Xw hSW => by have q := (hSW.blk MO.out HOD.out).cell (i := 0) rfl; have q2 := (hSW.blk MO.out HOD.out).cell (i := 1) rfl; go_simp⟩) hHeld ?_
      simp only [Act.put, List.setIfInBounds_toArray, List.set_cons_zero, List.set_cons_succ]
      refine wpAnyH_ready (rs := [3, 5]) (by kernel_rfl) (by simp) ?_
      refine AllReadyH.cons (o := ⟨some 31, _, _, _, _, _⟩) rfl (fun K hK => ?_) (AllReadyH.cons (o := ⟨some 33, _, _, _, _, _⟩) rfl (fun K hK => ?_) AllReadyH.nil)
      · have e2 := MD.out.cell (i := 2) rfl
        go_simp
        refine hK.out _ _ hHeld (fun hHeld => ?_)
        clear hK K e2
        refine wpAnyH_ready (rs := [5]) (by kernel_rfl) (by simp) ?_
        refine AllReadyH.cons (o := ⟨some 33, _, _, _, _, _⟩) rfl (fun K hK => ?_) AllReadyH.nil
        go_simp
        refine (movables_c (HTM.out.below (Below.refl _ wm).drew) H1.out).mono ?_
        rintro e y1 ⟨rfl, hb⟩
        have hby1 := below_t (Below.refl _ wm).drew hb
        have HY1 := Lib.hid hby1
        have hDY1 := MD.out.below hby1
        go_wp2_with fail
        refine hK.out _ _ (Fr.trans hHeld (Fr.below _ hb) (fun i hi => .inl hi)) (fun hHeld => ?_)
        clear hK K hb hby1
        refine wpAnyH_ready (rs := [7]) (by kernel_rfl) (by simp) ?_
        refine AllReadyH.cons (o := ⟨some 35, _, _, _, _, _⟩) rfl (fun K hK => ?_) AllReadyH.nil
        go_simp
        refine (movables_c (HTM.out.below HY1.out) H2.out).mono ?_
        rintro e y2 ⟨rfl, hb⟩
        have hby2 := below_t HY1.out hb
        have HY2 := Lib.hid hby2
        have hDY2 := MD.out.below hby2
        go_wp2_with fail
        refine hK.out _ _ (Fr.trans hHeld (Fr.below _ hb) (fun i hi => .inl hi)) (fun hHeld => ?_)
        clear hK K hb hby2
        refine wpAnyH_take (i := 8) (oi := ⟨some 36, _, _, _, _, _⟩) (v := .int .i64 (x1 - x2)) rfl (by kernel_rfl) (by kernel_rfl) (by kernel_rfl) (fun _ _ _ h => h) (Or.inl ⟨by rfl, fun Xw hSW => by have q := wrB b1 b2; go_simp; first | done | exact q | (trace_state; fail)⟩) hHeld ?_
        simp only [Act.put, List.setIfInBounds_toArray, List.set_cons_zero, List.set_cons_succ]
        refine wpAnyH_take (i := 9) (oi := ⟨some 37, _, _, _, _, _⟩) (v := .int .i64 (x1 - x2)) rfl (by kernel_rfl) (by kernel_rfl) (by kernel_rfl) (fun _ _ _ h => h) (Or.inl ⟨by rfl, fun Xw hSW => by have q := wrB b1 b2; go_simp; first | done | exact q | (trace_state; fail)⟩) hHeld ?_
        simp only [Act.put, List.setIfInBounds_toArray, List.set_cons_zero, List.set_cons_succ]
        refine wpAnyH_take (i := 10) (oi := ⟨some 38, _, _, _, _, _⟩) (v := .pointer (some ⟨bd, 0, none⟩)) rfl (by kernel_rfl) (by kernel_rfl) (by kernel_rfl) (fun _ _ _ h => h) (Or.inl ⟨by rfl, fun Xw hSW => by go_simp⟩) hHeld ?_
        simp only [Act.put, List.setIfInBounds_toArray, List.set_cons_zero, List.set_cons_succ]
        refine wpAnyH_take (i := 11) (oi := ⟨some 39, _, _, _, _, _⟩) (v := .pointer (some ⟨bd, 2, none⟩)) rfl (by kernel_rfl) (by kernel_rfl) (by kernel_rfl) (fun _ _ _ h => h) (Or.inl ⟨by rfl, fun Xw hSW => by go_simp⟩) hHeld ?_
        simp only [Act.put, List.setIfInBounds_toArray, List.set_cons_zero, List.set_cons_succ]
        have f2 := hDY2.frozen 2
        have e2 := hDY2.cell (i := 2) rfl
        refine wpAnyH_ready (rs := [12]) (by kernel_rfl) (by simp) ?_
        refine AllReadyH.cons (o := ⟨none, _, _, _, _, _⟩) rfl (fun K hK => ?_) AllReadyH.nil
        go_simp
        refine hK.out _ _ (Fr.trans hHeld (Fr.set (fun k => k = bd) _ _ _ rfl) (fun i hi => .inl hi)) (fun hHeld => ?_)
        clear hK K
        refine wpAnyH_done (by kernel_rfl) ?_ _
        refine NoPanic.normal ?_
        clear f2 e2
        go_wp2_with fail
        go_end0
        refine ⟨rfl, _, ?_, hDY2.set 2 _, ?_⟩
        · exact ((MR.out.below HY2.out).grown (grown_set _ bd 2 _) (.inr (own_ne (MR.out.below HY2.out) hDY2 (by decide)))).mono (by have := HS.out; have := MZ.out; omega)
        · exact (MF.out.trans hHeld (fun i hi => .inl hi))
      · go_simp
        refine (movables_c (HTM.out.below (Below.refl _ wm).drew) H1.out).mono ?_
        rintro e y3 ⟨rfl, hb⟩
        have hby3 := below_t (Below.refl _ wm).drew hb
        have HY3 := Lib.hid hby3
        have hDY3 := MD.out.below hby3
        go_wp2_with fail
        refine hK.out _ _ (Fr.trans hHeld (Fr.below _ hb) (fun i hi => .inl hi)) (fun hHeld => ?_)
        clear hK K hb hby3
        refine wpAnyH_ready (rs := [3, 7]) (by kernel_rfl) (by simp) ?_
        refine AllReadyH.cons (o := ⟨some 31, _, _, _, _, _⟩) rfl (fun K hK => ?_) (AllReadyH.cons (o := ⟨some 35, _, _, _, _, _⟩) rfl (fun K hK => ?_) AllReadyH.nil)
        · have e2 := hDY3.cell (i := 2) rfl
          go_simp
          refine hK.out _ _ hHeld (fun hHeld => ?_)
          clear hK K e2
          refine wpAnyH_ready (rs := [7]) (by kernel_rfl) (by simp) ?_
          refine AllReadyH.cons (o := ⟨some 35, _, _, _, _, _⟩) rfl (fun K hK => ?_) AllReadyH.nil
          go_simp
          refine (movables_c (HTM.out.below HY3.out) H2.out).mono ?_
          rintro e y4 ⟨rfl, hb⟩
          have hby4 := below_t HY3.out hb
          have HY4 := Lib.hid hby4
          have hDY4 := MD.out.below hby4
          go_wp2_with fail
          refine hK.out _ _ (Fr.trans hHeld (Fr.below _ hb) (fun i hi => .inl hi)) (fun hHeld => ?_)
          clear hK K hb hby4
          refine wpAnyH_take (i := 8) (oi := ⟨some 36, _, _, _, _, _⟩) (v := .int .i64 (x1 - x2)) rfl (by kernel_rfl) (by kernel_rfl) (by kernel_rfl) (fun _ _ _ h => h) (Or.inl ⟨by rfl, fun Xw hSW => by have q := wrB b1 b2; go_simp; first | done | exact q | (trace_state; fail)⟩) hHeld ?_
          simp only [Act.put, List.setIfInBounds_toArray, List.set_cons_zero, List.set_cons_succ]
          refine wpAnyH_take (i := 9) (oi := ⟨some 37, _, _, _, _, _⟩) (v := .int .i64 (x1 - x2)) rfl (by kernel_rfl) (by kernel_rfl) (by kernel_rfl) (fun _ _ _ h => h) (Or.inl ⟨by rfl, fun Xw hSW => by have q := wrB b1 b2; go_simp; first | done | exact q | (trace_state; fail)⟩) hHeld ?_
          simp only [Act.put, List.setIfInBounds_toArray, List.set_cons_zero, List.set_cons_succ]
          refine wpAnyH_take (i := 10) (oi := ⟨some 38, _, _, _, _, _⟩) (v := .pointer (some ⟨bd, 0, none⟩)) rfl (by kernel_rfl) (by kernel_rfl) (by kernel_rfl) (fun _ _ _ h => h) (Or.inl ⟨by rfl, fun Xw hSW => by go_simp⟩) hHeld ?_
          simp only [Act.put, List.setIfInBounds_toArray, List.set_cons_zero, List.set_cons_succ]
          refine wpAnyH_take (i := 11) (oi := ⟨some 39, _, _, _, _, _⟩) (v := .pointer (some ⟨bd, 2, none⟩)) rfl (by kernel_rfl) (by kernel_rfl) (by kernel_rfl) (fun _ _ _ h => h) (Or.inl ⟨by rfl, fun Xw hSW => by go_simp⟩) hHeld ?_
          simp only [Act.put, List.setIfInBounds_toArray, List.set_cons_zero, List.set_cons_succ]
          have f2 := hDY4.frozen 2
          have e2 := hDY4.cell (i := 2) rfl
          refine wpAnyH_ready (rs := [12]) (by kernel_rfl) (by simp) ?_
          refine AllReadyH.cons (o := ⟨none, _, _, _, _, _⟩) rfl (fun K hK => ?_) AllReadyH.nil
          go_simp
          refine hK.out _ _ (Fr.trans hHeld (Fr.set (fun k => k = bd) _ _ _ rfl) (fun i hi => .inl hi)) (fun hHeld => ?_)
          clear hK K
          refine wpAnyH_done (by kernel_rfl) ?_ _
          refine NoPanic.normal ?_
          clear f2 e2
          go_wp2_with fail
          go_end0
          refine ⟨rfl, _, ?_, hDY4.set 2 _, ?_⟩
          · exact ((MR.out.below HY4.out).grown (grown_set _ bd 2 _) (.inr (own_ne (MR.out.below HY4.out) hDY4 (by decide)))).mono (by have := HS.out; have := MZ.out; omega)
          · exact (MF.out.trans hHeld (fun i hi => .inl hi))
        · go_simp
          refine (movables_c (HTM.out.below HY3.out) H2.out).mono ?_
          rintro e y5 ⟨rfl, hb⟩
          have hby5 := below_t HY3.out hb
          have HY5 := Lib.hid hby5
          have hDY5 := MD.out.below hby5
          go_wp2_with fail
          refine hK.out _ _ (Fr.trans hHeld (Fr.below _ hb) (fun i hi => .inl hi)) (fun hHeld => ?_)
          clear hK K hb hby5
          refine wpAnyH_take (i := 8) (oi := ⟨some 36, _, _, _, _, _⟩) (v := .int .i64 (x1 - x2)) rfl (by kernel_rfl) (by kernel_rfl) (by kernel_rfl) (fun _ _ _ h => h) (Or.inl ⟨by rfl, fun Xw hSW => by have q := wrB b1 b2; go_simp; first | done | exact q | (trace_state; fail)⟩) hHeld ?_
          simp only [Act.put, List.setIfInBounds_toArray, List.set_cons_zero, List.set_cons_succ]
          refine wpAnyH_ready (rs := [3]) (by kernel_rfl) (by simp) ?_
          refine AllReadyH.cons (o := ⟨some 31, _, _, _, _, _⟩) rfl (fun K hK => ?_) AllReadyH.nil
          have e2 := hDY5.cell (i := 2) rfl
          go_simp
          refine hK.out _ _ hHeld (fun hHeld => ?_)
          clear hK K e2
          refine wpAnyH_take (i := 9) (oi := ⟨some 37, _, _, _, _, _⟩) (v := .int .i64 (x1 - x2)) rfl (by kernel_rfl) (by kernel_rfl) (by kernel_rfl) (fun _ _ _ h => h) (Or.inl ⟨by rfl, fun Xw hSW => by have q := wrB b1 b2; go_simp; first | done | exact q | (trace_state; fail)⟩) hHeld ?_
          simp only [Act.put, List.setIfInBounds_toArray, List.set_cons_zero, List.set_cons_succ]
          refine wpAnyH_take (i := 10) (oi := ⟨some 38, _, _, _, _, _⟩) (v := .pointer (some ⟨bd, 0, none⟩)) rfl (by kernel_rfl) (by kernel_rfl) (by kernel_rfl) (fun _ _ _ h => h) (Or.inl ⟨by rfl, fun Xw hSW => by go_simp⟩) hHeld ?_
          simp only [Act.put, List.setIfInBounds_toArray, List.set_cons_zero, List.set_cons_succ]
          refine wpAnyH_take (i := 11) (oi := ⟨some 39, _, _, _, _, _⟩) (v := .pointer (some ⟨bd, 2, none⟩)) rfl (by kernel_rfl) (by kernel_rfl) (by kernel_rfl) (fun _ _ _ h => h) (Or.inl ⟨by rfl, fun Xw hSW => by go_simp⟩) hHeld ?_
          simp only [Act.put, List.setIfInBounds_toArray, List.set_cons_zero, List.set_cons_succ]
          have f2 := hDY5.frozen 2
          have e2 := hDY5.cell (i := 2) rfl
          refine wpAnyH_ready (rs := [12]) (by kernel_rfl) (by simp) ?_
          refine AllReadyH.cons (o := ⟨none, _, _, _, _, _⟩) rfl (fun K hK => ?_) AllReadyH.nil
          go_simp
          refine hK.out _ _ (Fr.trans hHeld (Fr.set (fun k => k = bd) _ _ _ rfl) (fun i hi => .inl hi)) (fun hHeld => ?_)
          clear hK K
          refine wpAnyH_done (by kernel_rfl) ?_ _
          refine NoPanic.normal ?_
          clear f2 e2
          go_wp2_with fail
          go_end0
          refine ⟨rfl, _, ?_, hDY5.set 2 _, ?_⟩
          · exact ((MR.out.below HY5.out).grown (grown_set _ bd 2 _) (.inr (own_ne (MR.out.below HY5.out) hDY5 (by decide)))).mono (by have := HS.out; have := MZ.out; omega)
          · exact (MF.out.trans hHeld (fun i hi => .inl hi))
  · have hd0 : ((d : Int) == 0) = false := by simp; omega
    have hdn : ((d : Int) != 0) = true := by simp; omega
    have hdw : wrap64 ((d : Int) - 1) = ((d - 1 : Nat) : Int) := by rw [wr64 (by omega) (by omega)]; omega
    have hd6 : d - 1 < 6 := by omega
    have hd6I : (d : Int) - 1 < 6 := by omega
    have hd6J : 0 ≤ (d : Int) - 1 := by omega
    have hs : n.sd (d - 1) = (ko, lo) := by rw [← hold, if_neg h0]
    have c0 := hN.cell (i := 0) (g_kind n)
    have c1 := hN.cell (i := 1) (g_lev n)
    have a0 := hN.cell (g_sk n (d := d - 1) hd6)
    have a1 := hN.cell (g_sl n (d := d - 1) hd6)
    rw [hs] at a0 a1
    simp only at a0 a1
    clear hT hN hP hD h1 h2 hold h0 hs
    go_enter Tryd.func71, Tryd.ntmps71
    go_wp2_with fail
    refine HeldP.wp_named (S := fun W => Fr (fun k => k = bd) w W ∧ Blk W bp TP [.pointer (some ⟨bd, 0, none⟩)] ∧ Blk W bc TC [.int .u8 (k : Int), .int .u8 (m : Int)] ∧ Blk W (bc + 1) TC [.int .u8 (ko : Int), .int .u8 (lo : Int)] ∧ Blk W bd TD [.slice none 0 0, .int .i64 0, .int .i64 0]) ⟨?_, ?_, ?_, ?_, ?_⟩ ?_
    · exact (show Fr (fun k => k = bd) w _ from Fr.below _ (by subst hbc; (repeat' (first | (with_reducible exact Below.refl _ _) | (with_reducible refine Below.setCell ?_ (by (first | omega | (simp; done) | (simp; omega))) _) | (with_reducible refine Below.alloc ?_ (by (first | omega | (simp; done) | (simp; omega))) _) | (with_reducible refine Below.drew ?_) | (with_reducible refine below_drewN ?_ _)))))
    · (repeat' (first | (with_reducible exact HP.out) | (with_reducible refine BlkP.Blk.drew ?_) | (with_reducible refine BlkP.Blk.drewN ?_ _) | (with_reducible refine BlkP.Blk.setAt (us := ?_) (by first | omega | (simp; done) | (simp; omega)) rfl ?_ ?_) | (with_reducible refine BlkP.Blk.otherAt ?_ (by first | omega | (simp; done) | (simp; omega))) | (with_reducible refine BlkP.Blk.newA' (by first | omega | (simp; done) | (simp; omega)) rfl) | (with_reducible refine BlkP.Blk.alloc ?_ _) | (exact rfl)))
    · subst hbc; (repeat' (first | (with_reducible refine BlkP.Blk.drew ?_) | (with_reducible refine BlkP.Blk.drewN ?_ _) | (with_reducible refine BlkP.Blk.setAt (us := ?_) (by first | omega | (simp; done) | (simp; omega)) rfl ?_ ?_) | (with_reducible refine BlkP.Blk.otherAt ?_ (by first | omega | (simp; done) | (simp; omega))) | (with_reducible refine BlkP.Blk.newA' (by first | omega | (simp; done) | (simp; omega)) rfl) | (with_reducible refine BlkP.Blk.alloc ?_ _) | (exact rfl)))
    · subst hbc; (repeat' (first | (with_reducible refine BlkP.Blk.drew ?_) | (with_reducible refine BlkP.Blk.drewN ?_ _) | (with_reducible refine BlkP.Blk.setAt (us := ?_) (by first | omega | (simp; done) | (simp; omega)) rfl ?_ ?_) | (with_reducible refine BlkP.Blk.otherAt ?_ (by first | omega | (simp; done) | (simp; omega))) | (with_reducible refine BlkP.Blk.newA' (by first | omega | (simp; done) | (simp; omega)) rfl) | (with_reducible refine BlkP.Blk.alloc ?_ _) | (exact rfl)))
    · (repeat' (first | (with_reducible exact HD.out) | (with_reducible refine BlkP.Blk.drew ?_) | (with_reducible refine BlkP.Blk.drewN ?_ _) | (with_reducible refine BlkP.Blk.setAt (us := ?_) (by first | omega | (simp; done) | (simp; omega)) rfl ?_ ?_) | (with_reducible refine BlkP.Blk.otherAt ?_ (by first | omega | (simp; done) | (simp; omega))) | (with_reducible refine BlkP.Blk.newA' (by first | omega | (simp; done) | (simp; omega)) rfl) | (with_reducible refine BlkP.Blk.alloc ?_ _) | (exact rfl)))
    rintro wn ⟨hfr, kp, kc, ko', kd'⟩
    have KF := Lib.hid hfr
    have KP := Lib.hid kp
    have KC := Lib.hid kc
    have KO := Lib.hid ko'
    have KD := Lib.hid kd'
    have HCD := Lib.hid (blk_ne kc kd' (by decide))
    have HOD := Lib.hid (blk_ne ko' kd' (by decide))
    have hzn := hfr.size
    clear hfr kp kc ko' kd'
    refine wp_region_noPanic ?_
    refine wp_region_held_drew (S := fun Xw => Fr (fun k => k = bd) wn Xw) (by kernel_rfl) ((Fr.refl _ wn).drew) (fun hHeld => ?_)
    refine wpAnyH_take (i := 0) (oi := ⟨some 16, _, _, _, _, _⟩) (v := .pointer (some ⟨bd, 0, none⟩)) rfl (by kernel_rfl) (by kernel_rfl) (by kernel_rfl) (fun _ _ _ h => h) (Or.inl ⟨by rfl, fun Xw hSW => by have q := (hSW.blk KP.out HPD.out).cell (i := 0) rfl; go_simp⟩) hHeld ?_
    simp only [Act.put, List.setIfInBounds_toArray, List.set_cons_zero, List.set_cons_succ]
    refine wpAnyH_take (i := 1) (oi := ⟨some 17, _, _, _, _, _⟩) (v := .pointer (some ⟨bd, 0, none⟩)) rfl (by kernel_rfl) (by kernel_rfl) (by kernel_rfl) (fun _ _ _ h => h) (Or.inl ⟨by rfl, fun Xw hSW => by have q := (hSW.blk KP.out HPD.out).cell (i := 0) rfl; go_simp⟩) hHeld ?_
    simp only [Act.put, List.setIfInBounds_toArray, List.set_cons_zero, List.set_cons_succ]
    refine wpAnyH_take (i := 2) (oi := ⟨some 18, _, _, _, _, _⟩) (v := .pointer (some ⟨bd, 0, none⟩)) rfl (by kernel_rfl) (by kernel_rfl) (by kernel_rfl) (fun _ _ _ h => h) (Or.inl ⟨by rfl, fun Xw hSW => by go_simp⟩) hHeld ?_
    simp only [Act.put, List.setIfInBounds_toArray, List.set_cons_zero, List.set_cons_succ]
    refine wpAnyH_take (i := 3) (oi := ⟨some 19, _, _, _, _, _⟩) (v := .pointer (some ⟨bd, 0, none⟩)) rfl (by kernel_rfl) (by kernel_rfl) (by kernel_rfl) (fun _ _ _ h => h) (Or.inl ⟨by rfl, fun Xw hSW => by go_simp⟩) hHeld ?_
    simp only [Act.put, List.setIfInBounds_toArray, List.set_cons_zero, List.set_cons_succ]
    refine wpAnyH_take (i := 5) (oi := ⟨some 21, _, _, _, _, _⟩) (v := .int .i64 (d : Int)) rfl (by kernel_rfl) (by kernel_rfl) (by kernel_rfl) (fun _ _ _ h => h) (Or.inl ⟨by rfl, fun Xw hSW => by go_simp⟩) hHeld ?_
    simp only [Act.put, List.setIfInBounds_toArray, List.set_cons_zero, List.set_cons_succ]
    refine wpAnyH_take (i := 6) (oi := ⟨some 22, _, _, _, _, _⟩) (v := .agg #[.int .u8 (k : Int), .int .u8 (m : Int)]) rfl (by kernel_rfl) (by kernel_rfl) (by kernel_rfl) (fun _ _ _ h => h) (Or.inl ⟨by rfl, fun Xw hSW => by have q := (hSW.blk KC.out HCD.out).cell (i := 0) rfl; have q2 := (hSW.blk KC.out HCD.out).cell (i := 1) rfl; go_simp⟩) hHeld ?_
    simp only [Act.put, List.setIfInBounds_toArray, List.set_cons_zero, List.set_cons_succ]
    refine wpAnyH_take (i := 7) (oi := ⟨some 23, _, _, _, _, _⟩) (v := .agg #[.int .i64 (d : Int), .int .u8 (k : Int), .int .u8 (m : Int)]) rfl (by kernel_rfl) (by kernel_rfl) (by kernel_rfl) (fun _ _ _ h => h) (Or.inl ⟨by rfl, fun Xw hSW => by go_simp⟩) hHeld ?_
    simp only [Act.put, List.setIfInBounds_toArray, List.set_cons_zero, List.set_cons_succ]
    refine wpAnyH_ready (rs := [4, 8]) (by kernel_rfl) (by simp) ?_
    refine AllReadyH.cons (o := ⟨some 20, _, _, _, _, _⟩) rfl (fun K hK => ?_) (AllReadyH.cons (o := ⟨some 24, _, _, _, _, _⟩) rfl (fun K hK => ?_) AllReadyH.nil)
    · have e0 := KD.out.cell (i := 0) rfl
      go_simp
      refine hK.out _ _ (hHeld) (fun hHeld => ?_)
      clear hK K
      refine wpAnyH_ready (rs := [8]) (by kernel_rfl) (by simp) ?_
      refine AllReadyH.cons (o := ⟨some 24, _, _, _, _, _⟩) rfl (fun K hK => ?_) AllReadyH.nil
      go_simp
      refine hK.out _ _ (Fr.trans hHeld (Fr.alloc _ _ _) (fun i hi => .inl hi)) (fun hHeld => ?_)
      clear hK K e0
      refine wpAnyH_ready (rs := [9]) (by kernel_rfl) (by simp) ?_
      refine AllReadyH.cons (o := ⟨some 25, _, _, _, _, _⟩) rfl (fun K hK => ?_) AllReadyH.nil
      refine step_pushX (w0 := wn.drew) (B := wn.heap.size) (v := .slice none 0 0) (l := []) (y := (d, (k, m))) (n := 0) rfl (.tmp 20) (.tmp 24) rfl rfl rfl (Own.nil _ _ _ _) rfl (by simp) rfl (by omega) (by simp) ?_
      intro g c w5 hpu
      have HPU := Lib.hid hpu.1
      have hfr : Fr (fun k => k = bd) wn w5 := (Fr.refl _ wn).drew.trans (Fr.grown (S := fun k => k = bd) (w := wn.drew) hpu.2.1 (fun i hi => by cases hi)) (fun i hi => .inl hi)
      have HFR := Lib.hid hfr
      have hge5 : wn.heap.size ≤ g := by
        rcases hpu.2.2 with q | q
        · cases q
        · simpa using q
      have HD5 := Lib.hid (show Blk w5 bd TD [.slice none 0 0, .int .i64 0, .int .i64 0] from (KD.out.grown (w := wn.drew) (w' := w5) (r := none) hpu.2.1 (by simp)))
      clear hpu
      refine hK.out _ _ hfr (fun hHeld => ?_)
      clear hK K hfr
      refine wpAnyH_take (i := 10) (oi := ⟨some 26, _, _, _, _, _⟩) (v := .pointer (some ⟨bd, 0, none⟩)) rfl (by kernel_rfl) (by kernel_rfl) (by kernel_rfl) (fun _ _ _ h => h) (Or.inl ⟨by rfl, fun Xw hSW => by go_simp⟩) hHeld ?_
      simp only [Act.put, List.setIfInBounds_toArray, List.set_cons_zero, List.set_cons_succ]
      refine wpAnyH_take (i := 11) (oi := ⟨some 27, _, _, _, _, _⟩) (v := .pointer (some ⟨bd, 0, none⟩)) rfl (by kernel_rfl) (by kernel_rfl) (by kernel_rfl) (fun _ _ _ h => h) (Or.inl ⟨by rfl, fun Xw hSW => by go_simp⟩) hHeld ?_
      simp only [Act.put, List.setIfInBounds_toArray, List.set_cons_zero, List.set_cons_succ]
      have f0 := HD5.out.frozen 0
      have e0 := HD5.out.cell (i := 0) rfl
      refine wpAnyH_ready (rs := [12]) (by kernel_rfl) (by simp) ?_
      refine AllReadyH.cons (o := ⟨none, _, _, _, _, _⟩) rfl (fun K hK => ?_) AllReadyH.nil
      go_simp
      refine hK.out _ _ (HFR.out.trans (Fr.set (fun k => k = bd) _ _ _ rfl) (fun i hi => .inl hi)) (fun hHeld => ?_)
      clear hK K
      refine wpAnyH_done (by kernel_rfl) ?_ _
      refine NoPanic.normal ?_
      go_wp2_with fail
      refine HeldP.wp_named (S := fun W => Fr (fun k => k = bd) wn W ∧ Blk W bp TP [.pointer (some ⟨bd, 0, none⟩)] ∧ Blk W bc TC [.int .u8 (k : Int), .int .u8 (m : Int)] ∧ Blk W (bc + 1) TC [.int .u8 (ko : Int), .int .u8 (lo : Int)] ∧ Blk W bd TD [.slice (some ⟨g, 0, none⟩) 1 c, .int .i64 0, .int .i64 0] ∧ RowG.Own encX TX W wn.heap.size (.slice (some ⟨g, 0, none⟩) 1 c) [(d, (k, m))]) ⟨hHeld, hHeld.blk KP.out HPD.out, hHeld.blk KC.out HCD.out, hHeld.blk KO.out HOD.out, HD5.out.set 0 _, HPU.out.grown (grown_set _ bd 0 _) (.inr (own_ne HPU.out HD5.out (by decide)))⟩ ?_
      clear hHeld e0 f0
      rintro wm ⟨hfm, mp, mc, mo, md, mr⟩
      have MF := Lib.hid (KF.out.trans hfm (fun i hi => .inl hi))
      have MP := Lib.hid mp
      have MC := Lib.hid mc
      have MO := Lib.hid mo
      have MD := Lib.hid md
      have MR := Lib.hid mr
      have MZ := Lib.hid (show w.heap.size ≤ wn.heap.size from KF.out.size)
      have HTM := Lib.hid (show KindW.Tab wm from tab_frB HT.out MF.out HTD.out)
      clear hfm mp mc mo md mr
      refine wp_region_noPanic ?_
      refine wp_region_held_drew (S := fun Xw => Fr (fun k => k = bd) wm Xw) (by kernel_rfl) ((Fr.refl _ wm).drew) (fun hHeld => ?_)
      refine wpAnyH_take (i := 0) (oi := ⟨some 28, _, _, _, _, _⟩) (v := .pointer (some ⟨bd, 0, none⟩)) rfl (by kernel_rfl) (by kernel_rfl) (by kernel_rfl) (fun _ _ _ h => h) (Or.inl ⟨by rfl, fun Xw hSW => by have q := (hSW.blk MP.out HPD.out).cell (i := 0) rfl; go_simp⟩) hHeld ?_
      simp only [Act.put, List.setIfInBounds_toArray, List.set_cons_zero, List.set_cons_succ]
      refine wpAnyH_take (i := 1) (oi := ⟨some 29, _, _, _, _, _⟩) (v := .pointer (some ⟨bd, 0, none⟩)) rfl (by kernel_rfl) (by kernel_rfl) (by kernel_rfl) (fun _ _ _ h => h) (Or.inl ⟨by rfl, fun Xw hSW => by go_simp⟩) hHeld ?_
      simp only [Act.put, List.setIfInBounds_toArray, List.set_cons_zero, List.set_cons_succ]
      refine wpAnyH_take (i := 2) (oi := ⟨some 30, _, _, _, _, _⟩) (v := .pointer (some ⟨bd, 2, none⟩)) rfl (by kernel_rfl) (by kernel_rfl) (by kernel_rfl) (fun _ _ _ h => h) (Or.inl ⟨by rfl, fun Xw hSW => by go_simp⟩) hHeld ?_
      simp only [Act.put, List.setIfInBounds_toArray, List.set_cons_zero, List.set_cons_succ]
      refine wpAnyH_take (i := 4) (oi := ⟨some 32, _, _, _, _, _⟩) (v := .agg #[.int .u8 (k : Int), .int .u8 (m : Int)]) rfl (by kernel_rfl) (by kernel_rfl) (by kernel_rfl) (fun _ _ _ h => h) (Or.inl ⟨by rfl, fun Xw hSW => by have q := (hSW.blk MC.out HCD.out).cell (i := 0) rfl; have q2 := (hSW.blk MC.out HCD.out).cell (i := 1) rfl; go_simp⟩) hHeld ?_
      simp only [Act.put, List.setIfInBounds_toArray, List.set_cons_zero, List.set_cons_succ]
      refine wpAnyH_take (i := 6) (oi := ⟨some 34, _, _, _, _, _⟩) (v := .agg #[.int .u8 (ko : Int), .int .u8 (lo : Int)]) rfl (by kernel_rfl) (by kernel_rfl) (by kernel_rfl) (fun _ _ _ h => h) (Or.inl ⟨by rfl, fun Xw hSW => by have q := (hSW.blk MO.out HOD.out).cell (i := 0) rfl; have q2 := (hSW.blk MO.out HOD.out).cell (i := 1) rfl; go_simp⟩) hHeld ?_
      simp only [Act.put, List.setIfInBounds_toArray, List.set_cons_zero, List.set_cons_succ]
      refine wpAnyH_ready (rs := [3, 5]) (by kernel_rfl) (by simp) ?_
      refine AllReadyH.cons (o := ⟨some 31, _, _, _, _, _⟩) rfl (fun K hK => ?_) (AllReadyH.cons (o := ⟨some 33, _, _, _, _, _⟩) rfl (fun K hK => ?_) AllReadyH.nil)
      · have e2 := MD.out.cell (i := 2) rfl
        go_simp
        refine hK.out _ _ hHeld (fun hHeld => ?_)
        clear hK K e2
        refine wpAnyH_ready (rs := [5]) (by kernel_rfl) (by simp) ?_
        refine AllReadyH.cons (o := ⟨some 33, _, _, _, _, _⟩) rfl (fun K hK => ?_) AllReadyH.nil
        go_simp
        refine (movables_c (HTM.out.below (Below.refl _ wm).drew) H1.out).mono ?_
        rintro e y1 ⟨rfl, hb⟩
        have hby1 := below_t (Below.refl _ wm).drew hb
        have HY1 := Lib.hid hby1
        have hDY1 := MD.out.below hby1
        go_wp2_with fail
        refine hK.out _ _ (Fr.trans hHeld (Fr.below _ hb) (fun i hi => .inl hi)) (fun hHeld => ?_)
        clear hK K hb hby1
        refine wpAnyH_ready (rs := [7]) (by kernel_rfl) (by simp) ?_
        refine AllReadyH.cons (o := ⟨some 35, _, _, _, _, _⟩) rfl (fun K hK => ?_) AllReadyH.nil
        go_simp
        refine (movables_c (HTM.out.below HY1.out) H2.out).mono ?_
        rintro e y2 ⟨rfl, hb⟩
        have hby2 := below_t HY1.out hb
        have HY2 := Lib.hid hby2
        have hDY2 := MD.out.below hby2
        go_wp2_with fail
        refine hK.out _ _ (Fr.trans hHeld (Fr.below _ hb) (fun i hi => .inl hi)) (fun hHeld => ?_)
        clear hK K hb hby2
        refine wpAnyH_take (i := 8) (oi := ⟨some 36, _, _, _, _, _⟩) (v := .int .i64 (x1 - x2)) rfl (by kernel_rfl) (by kernel_rfl) (by kernel_rfl) (fun _ _ _ h => h) (Or.inl ⟨by rfl, fun Xw hSW => by have q := wrB b1 b2; go_simp; first | done | exact q | (trace_state; fail)⟩) hHeld ?_
        simp only [Act.put, List.setIfInBounds_toArray, List.set_cons_zero, List.set_cons_succ]
        refine wpAnyH_take (i := 9) (oi := ⟨some 37, _, _, _, _, _⟩) (v := .int .i64 (x1 - x2)) rfl (by kernel_rfl) (by kernel_rfl) (by kernel_rfl) (fun _ _ _ h => h) (Or.inl ⟨by rfl, fun Xw hSW => by have q := wrB b1 b2; go_simp; first | done | exact q | (trace_state; fail)⟩) hHeld ?_
        simp only [Act.put, List.setIfInBounds_toArray, List.set_cons_zero, List.set_cons_succ]
        refine wpAnyH_take (i := 10) (oi := ⟨some 38, _, _, _, _, _⟩) (v := .pointer (some ⟨bd, 0, none⟩)) rfl (by kernel_rfl) (by kernel_rfl) (by kernel_rfl) (fun _ _ _ h => h) (Or.inl ⟨by rfl, fun Xw hSW => by go_simp⟩) hHeld ?_
        simp only [Act.put, List.setIfInBounds_toArray, List.set_cons_zero, List.set_cons_succ]
        refine wpAnyH_take (i := 11) (oi := ⟨some 39, _, _, _, _, _⟩) (v := .pointer (some ⟨bd, 2, none⟩)) rfl (by kernel_rfl) (by kernel_rfl) (by kernel_rfl) (fun _ _ _ h => h) (Or.inl ⟨by rfl, fun Xw hSW => by go_simp⟩) hHeld ?_
        simp only [Act.put, List.setIfInBounds_toArray, List.set_cons_zero, List.set_cons_succ]
        have f2 := hDY2.frozen 2
        have e2 := hDY2.cell (i := 2) rfl
        refine wpAnyH_ready (rs := [12]) (by kernel_rfl) (by simp) ?_
        refine AllReadyH.cons (o := ⟨none, _, _, _, _, _⟩) rfl (fun K hK => ?_) AllReadyH.nil
        go_simp
        refine hK.out _ _ (Fr.trans hHeld (Fr.set (fun k => k = bd) _ _ _ rfl) (fun i hi => .inl hi)) (fun hHeld => ?_)
        clear hK K
        refine wpAnyH_done (by kernel_rfl) ?_ _
        refine NoPanic.normal ?_
        clear f2 e2
        go_wp2_with fail
        go_end0
        refine ⟨rfl, _, ?_, hDY2.set 2 _, ?_⟩
        · exact ((MR.out.below HY2.out).grown (grown_set _ bd 2 _) (.inr (own_ne (MR.out.below HY2.out) hDY2 (by decide)))).mono (by have := HS.out; have := MZ.out; omega)
        · exact (MF.out.trans hHeld (fun i hi => .inl hi))
      · go_simp
        refine (movables_c (HTM.out.below (Below.refl _ wm).drew) H1.out).mono ?_
        rintro e y3 ⟨rfl, hb⟩
        have hby3 := below_t (Below.refl _ wm).drew hb
        have HY3 := Lib.hid hby3
        have hDY3 := MD.out.below hby3
        go_wp2_with fail
        refine hK.out _ _ (Fr.trans hHeld (Fr.below _ hb) (fun i hi => .inl hi)) (fun hHeld => ?_)
        clear hK K hb hby3
        refine wpAnyH_ready (rs := [3, 7]) (by kernel_rfl) (by simp) ?_
        refine AllReadyH.cons (o := ⟨some 31, _, _, _, _, _⟩) rfl (fun K hK => ?_) (AllReadyH.cons (o := ⟨some 35, _, _, _, _, _⟩) rfl (fun K hK => ?_) AllReadyH.nil)
        · have e2 := hDY3.cell (i := 2) rfl
          go_simp
          refine hK.out _ _ hHeld (fun hHeld => ?_)
          clear hK K e2
          refine wpAnyH_ready (rs := [7]) (by kernel_rfl) (by simp) ?_
          refine AllReadyH.cons (o := ⟨some 35, _, _, _, _, _⟩) rfl (fun K hK => ?_) AllReadyH.nil
          go_simp
          refine (movables_c (HTM.out.below HY3.out) H2.out).mono ?_
          rintro e y4 ⟨rfl, hb⟩
          have hby4 := below_t HY3.out hb
          have HY4 := Lib.hid hby4
          have hDY4 := MD.out.below hby4
          go_wp2_with fail
          refine hK.out _ _ (Fr.trans hHeld (Fr.below _ hb) (fun i hi => .inl hi)) (fun hHeld => ?_)
          clear hK K hb hby4
          refine wpAnyH_take (i := 8) (oi := ⟨some 36, _, _, _, _, _⟩) (v := .int .i64 (x1 - x2)) rfl (by kernel_rfl) (by kernel_rfl) (by kernel_rfl) (fun _ _ _ h => h) (Or.inl ⟨by rfl, fun Xw hSW => by have q := wrB b1 b2; go_simp; first | done | exact q | (trace_state; fail)⟩) hHeld ?_
          simp only [Act.put, List.setIfInBounds_toArray, List.set_cons_zero, List.set_cons_succ]
          refine wpAnyH_take (i := 9) (oi := ⟨some 37, _, _, _, _, _⟩) (v := .int .i64 (x1 - x2)) rfl (by kernel_rfl) (by kernel_rfl) (by kernel_rfl) (fun _ _ _ h => h) (Or.inl ⟨by rfl, fun Xw hSW => by have q := wrB b1 b2; go_simp; first | done | exact q | (trace_state; fail)⟩) hHeld ?_
          simp only [Act.put, List.setIfInBounds_toArray, List.set_cons_zero, List.set_cons_succ]
          refine wpAnyH_take (i := 10) (oi := ⟨some 38, _, _, _, _, _⟩) (v := .pointer (some ⟨bd, 0, none⟩)) rfl (by kernel_rfl) (by kernel_rfl) (by kernel_rfl) (fun _ _ _ h => h) (Or.inl ⟨by rfl, fun Xw hSW => by go_simp⟩) hHeld ?_
          simp only [Act.put, List.setIfInBounds_toArray, List.set_cons_zero, List.set_cons_succ]
          refine wpAnyH_take (i := 11) (oi := ⟨some 39, _, _, _, _, _⟩) (v := .pointer (some ⟨bd, 2, none⟩)) rfl (by kernel_rfl) (by kernel_rfl) (by kernel_rfl) (fun _ _ _ h => h) (Or.inl ⟨by rfl, fun Xw hSW => by go_simp⟩) hHeld ?_
          simp only [Act.put, List.setIfInBounds_toArray, List.set_cons_zero, List.set_cons_succ]
          have f2 := hDY4.frozen 2
          have e2 := hDY4.cell (i := 2) rfl
          refine wpAnyH_ready (rs := [12]) (by kernel_rfl) (by simp) ?_
          refine AllReadyH.cons (o := ⟨none, _, _, _, _, _⟩) rfl (fun K hK => ?_) AllReadyH.nil
          go_simp
          refine hK.out _ _ (Fr.trans hHeld (Fr.set (fun k => k = bd) _ _ _ rfl) (fun i hi => .inl hi)) (fun hHeld => ?_)
          clear hK K
          refine wpAnyH_done (by kernel_rfl) ?_ _
          refine NoPanic.normal ?_
          clear f2 e2
          go_wp2_with fail
          go_end0
          refine ⟨rfl, _, ?_, hDY4.set 2 _, ?_⟩
          · exact ((MR.out.below HY4.out).grown (grown_set _ bd 2 _) (.inr (own_ne (MR.out.below HY4.out) hDY4 (by decide)))).mono (by have := HS.out; have := MZ.out; omega)
          · exact (MF.out.trans hHeld (fun i hi => .inl hi))
        · go_simp
          refine (movables_c (HTM.out.below HY3.out) H2.out).mono ?_
          rintro e y5 ⟨rfl, hb⟩
          have hby5 := below_t HY3.out hb
          have HY5 := Lib.hid hby5
          have hDY5 := MD.out.below hby5
          go_wp2_with fail
          refine hK.out _ _ (Fr.trans hHeld (Fr.below _ hb) (fun i hi => .inl hi)) (fun hHeld => ?_)
          clear hK K hb hby5
          refine wpAnyH_take (i := 8) (oi := ⟨some 36, _, _, _, _, _⟩) (v := .int .i64 (x1 - x2)) rfl (by kernel_rfl) (by kernel_rfl) (by kernel_rfl) (fun _ _ _ h => h) (Or.inl ⟨by rfl, fun Xw hSW => by have q := wrB b1 b2; go_simp; first | done | exact q | (trace_state; fail)⟩) hHeld ?_
          simp only [Act.put, List.setIfInBounds_toArray, List.set_cons_zero, List.set_cons_succ]
          refine wpAnyH_ready (rs := [3]) (by kernel_rfl) (by simp) ?_
          refine AllReadyH.cons (o := ⟨some 31, _, _, _, _, _⟩) rfl (fun K hK => ?_) AllReadyH.nil
          have e2 := hDY5.cell (i := 2) rfl
          go_simp
          refine hK.out _ _ hHeld (fun hHeld => ?_)
          clear hK K e2
          refine wpAnyH_take (i := 9) (oi := ⟨some 37, _, _, _, _, _⟩) (v := .int .i64 (x1 - x2)) rfl (by kernel_rfl) (by kernel_rfl) (by kernel_rfl) (fun _ _ _ h => h) (Or.inl ⟨by rfl, fun Xw hSW => by have q := wrB b1 b2; go_simp; first | done | exact q | (trace_state; fail)⟩) hHeld ?_
          simp only [Act.put, List.setIfInBounds_toArray, List.set_cons_zero, List.set_cons_succ]
          refine wpAnyH_take (i := 10) (oi := ⟨some 38, _, _, _, _, _⟩) (v := .pointer (some ⟨bd, 0, none⟩)) rfl (by kernel_rfl) (by kernel_rfl) (by kernel_rfl) (fun _ _ _ h => h) (Or.inl ⟨by rfl, fun Xw hSW => by go_simp⟩) hHeld ?_
          simp only [Act.put, List.setIfInBounds_toArray, List.set_cons_zero, List.set_cons_succ]
          refine wpAnyH_take (i := 11) (oi := ⟨some 39, _, _, _, _, _⟩) (v := .pointer (some ⟨bd, 2, none⟩)) rfl (by kernel_rfl) (by kernel_rfl) (by kernel_rfl) (fun _ _ _ h => h) (Or.inl ⟨by rfl, fun Xw hSW => by go_simp⟩) hHeld ?_
          simp only [Act.put, List.setIfInBounds_toArray, List.set_cons_zero, List.set_cons_succ]
          have f2 := hDY5.frozen 2
          have e2 := hDY5.cell (i := 2) rfl
          refine wpAnyH_ready (rs := [12]) (by kernel_rfl) (by simp) ?_
          refine AllReadyH.cons (o := ⟨none, _, _, _, _, _⟩) rfl (fun K hK => ?_) AllReadyH.nil
          go_simp
          refine hK.out _ _ (Fr.trans hHeld (Fr.set (fun k => k = bd) _ _ _ rfl) (fun i hi => .inl hi)) (fun hHeld => ?_)
          clear hK K
          refine wpAnyH_done (by kernel_rfl) ?_ _
          refine NoPanic.normal ?_
          clear f2 e2
          go_wp2_with fail
          go_end0
          refine ⟨rfl, _, ?_, hDY5.set 2 _, ?_⟩
          · exact ((MR.out.below HY5.out).grown (grown_set _ bd 2 _) (.inr (own_ne (MR.out.below HY5.out) hDY5 (by decide)))).mono (by have := HS.out; have := MZ.out; omega)
          · exact (MF.out.trans hHeld (fun i hi => .inl hi))
    · go_simp
      refine hK.out _ _ (Fr.trans hHeld (Fr.alloc _ _ _) (fun i hi => .inl hi)) (fun hHeld => ?_)
      clear hK K
      have e0 := KD.out.cell (i := 0) rfl
      have l0 := KD.out.lt
      refine wpAnyH_ready (rs := [4]) (by kernel_rfl) (by simp) ?_
      refine AllReadyH.cons (o := ⟨some 20, _, _, _, _, _⟩) rfl (fun K hK => ?_) AllReadyH.nil
      go_simp
      refine hK.out _ _ hHeld (fun hHeld => ?_)
      clear hK K e0 l0
      refine wpAnyH_ready (rs := [9]) (by kernel_rfl) (by simp) ?_
      refine AllReadyH.cons (o := ⟨some 25, _, _, _, _, _⟩) rfl (fun K hK => ?_) AllReadyH.nil
      refine step_pushX (w0 := wn.drew) (B := wn.heap.size) (v := .slice none 0 0) (l := []) (y := (d, (k, m))) (n := 0) rfl (.tmp 20) (.tmp 24) rfl rfl rfl (Own.nil _ _ _ _) rfl (by simp) rfl (by omega) (by simp) ?_
      intro g c w5 hpu
      have HPU := Lib.hid hpu.1
      have hfr : Fr (fun k => k = bd) wn w5 := (Fr.refl _ wn).drew.trans (Fr.grown (S := fun k => k = bd) (w := wn.drew) hpu.2.1 (fun i hi => by cases hi)) (fun i hi => .inl hi)
      have HFR := Lib.hid hfr
      have hge5 : wn.heap.size ≤ g := by
        rcases hpu.2.2 with q | q
        · cases q
        · simpa using q
      have HD5 := Lib.hid (show Blk w5 bd TD [.slice none 0 0, .int .i64 0, .int .i64 0] from (KD.out.grown (w := wn.drew) (w' := w5) (r := none) hpu.2.1 (by simp)))
      clear hpu
      refine hK.out _ _ hfr (fun hHeld => ?_)
      clear hK K hfr
      refine wpAnyH_take (i := 10) (oi := ⟨some 26, _, _, _, _, _⟩) (v := .pointer (some ⟨bd, 0, none⟩)) rfl (by kernel_rfl) (by kernel_rfl) (by kernel_rfl) (fun _ _ _ h => h) (Or.inl ⟨by rfl, fun Xw hSW => by go_simp⟩) hHeld ?_
      simp only [Act.put, List.setIfInBounds_toArray, List.set_cons_zero, List.set_cons_succ]
      refine wpAnyH_take (i := 11) (oi := ⟨some 27, _, _, _, _, _⟩) (v := .pointer (some ⟨bd, 0, none⟩)) rfl (by kernel_rfl) (by kernel_rfl) (by kernel_rfl) (fun _ _ _ h => h) (Or.inl ⟨by rfl, fun Xw hSW => by go_simp⟩) hHeld ?_
      simp only [Act.put, List.setIfInBounds_toArray, List.set_cons_zero, List.set_cons_succ]
      have f0 := HD5.out.frozen 0
      have e0 := HD5.out.cell (i := 0) rfl
      refine wpAnyH_ready (rs := [12]) (by kernel_rfl) (by simp) ?_
      refine AllReadyH.cons (o := ⟨none, _, _, _, _, _⟩) rfl (fun K hK => ?_) AllReadyH.nil
      go_simp
      refine hK.out _ _ (HFR.out.trans (Fr.set (fun k => k = bd) _ _ _ rfl) (fun i hi => .inl hi)) (fun hHeld => ?_)
      clear hK K
      refine wpAnyH_done (by kernel_rfl) ?_ _
      refine NoPanic.normal ?_
      go_wp2_with fail
      refine HeldP.wp_named (S := fun W => Fr (fun k => k = bd) wn W ∧ Blk W bp TP [.pointer (some ⟨bd, 0, none⟩)] ∧ Blk W bc TC [.int .u8 (k : Int), .int .u8 (m : Int)] ∧ Blk W (bc + 1) TC [.int .u8 (ko : Int), .int .u8 (lo : Int)] ∧ Blk W bd TD [.slice (some ⟨g, 0, none⟩) 1 c, .int .i64 0, .int .i64 0] ∧ RowG.Own encX TX W wn.heap.size (.slice (some ⟨g, 0, none⟩) 1 c) [(d, (k, m))]) ⟨hHeld, hHeld.blk KP.out HPD.out, hHeld.blk KC.out HCD.out, hHeld.blk KO.out HOD.out, HD5.out.set 0 _, HPU.out.grown (grown_set _ bd 0 _) (.inr (own_ne HPU.out HD5.out (by decide)))⟩ ?_
      clear hHeld e0 f0
      rintro wm ⟨hfm, mp, mc, mo, md, mr⟩
      have MF := Lib.hid (KF.out.trans hfm (fun i hi => .inl hi))
      have MP := Lib.hid mp
      have MC := Lib.hid mc
      have MO := Lib.hid mo
      have MD := Lib.hid md
      have MR := Lib.hid mr
      have MZ := Lib.hid (show w.heap.size ≤ wn.heap.size from KF.out.size)
      have HTM := Lib.hid (show KindW.Tab wm from tab_frB HT.out MF.out HTD.out)
      clear hfm mp mc mo md mr
      refine wp_region_noPanic ?_
      refine wp_region_held_drew (S := fun Xw => Fr (fun k => k = bd) wm Xw) (by kernel_rfl) ((Fr.refl _ wm).drew) (fun hHeld => ?_)
      refine wpAnyH_take (i := 0) (oi := ⟨some 28, _, _, _, _, _⟩) (v := .pointer (some ⟨bd, 0, none⟩)) rfl (by kernel_rfl) (by kernel_rfl) (by kernel_rfl) (fun _ _ _ h => h) (Or.inl ⟨by rfl, fun Xw hSW => by have q := (hSW.blk MP.out HPD.out).cell (i := 0) rfl; go_simp⟩) hHeld ?_
      simp only [Act.put, List.setIfInBounds_toArray, List.set_cons_zero, List.set_cons_succ]
      refine wpAnyH_take (i := 1) (oi := ⟨some 29, _, _, _, _, _⟩) (v := .pointer (some ⟨bd, 0, none⟩)) rfl (by kernel_rfl) (by kernel_rfl) (by kernel_rfl) (fun _ _ _ h => h) (Or.inl ⟨by rfl, fun Xw hSW => by go_simp⟩) hHeld ?_
      simp only [Act.put, List.setIfInBounds_toArray, List.set_cons_zero, List.set_cons_succ]
      refine wpAnyH_take (i := 2) (oi := ⟨some 30, _, _, _, _, _⟩) (v := .pointer (some ⟨bd, 2, none⟩)) rfl (by kernel_rfl) (by kernel_rfl) (by kernel_rfl) (fun _ _ _ h => h) (Or.inl ⟨by rfl, fun Xw hSW => by go_simp⟩) hHeld ?_
      simp only [Act.put, List.setIfInBounds_toArray, List.set_cons_zero, List.set_cons_succ]
      refine wpAnyH_take (i := 4) (oi := ⟨some 32, _, _, _, _, _⟩) (v := .agg #[.int .u8 (k : Int), .int .u8 (m : Int)]) rfl (by kernel_rfl) (by kernel_rfl) (by kernel_rfl) (fun _ _ _ h => h) (Or.inl ⟨by rfl, fun Xw hSW => by have q := (hSW.blk MC.out HCD.out).cell (i := 0) rfl; have q2 := (hSW.blk MC.out HCD.out).cell (i := 1) rfl; go_simp⟩) hHeld ?_
      simp only [Act.put, List.setIfInBounds_toArray, List.set_cons_zero, List.set_cons_succ]
      refine wpAnyH_take (i := 6) (oi := ⟨some 34, _, _, _, _, _⟩) (v := .agg #[.int .u8 (ko : Int), .int .u8 (lo : Int)]) rfl (by kernel_rfl) (by kernel_rfl) (by kernel_rfl) (fun _ _ _ h => h) (Or.inl ⟨by rfl, fun Xw hSW => by have q := (hSW.blk MO.out HOD.out).cell (i := 0) rfl; have q2 := (hSW.blk MO.out HOD.out).cell (i := 1) rfl; go_simp⟩) hHeld ?_
      simp only [Act.put, List.setIfInBounds_toArray, List.set_cons_zero, List.set_cons_succ]
      refine wpAnyH_ready (rs := [3, 5]) (by kernel_rfl) (by simp) ?_
      refine AllReadyH.cons (o := ⟨some 31, _, _, _, _, _⟩) rfl (fun K hK => ?_) (AllReadyH.cons (o := ⟨some 33, _, _, _, _, _⟩) rfl (fun K hK => ?_) AllReadyH.nil)
      · have e2 := MD.out.cell (i := 2) rfl
        go_simp
        refine hK.out _ _ hHeld (fun hHeld => ?_)
        clear hK K e2
        refine wpAnyH_ready (rs := [5]) (by kernel_rfl) (by simp) ?_
        refine AllReadyH.cons (o := ⟨some 33, _, _, _, _, _⟩) rfl (fun K hK => ?_) AllReadyH.nil
        go_simp
        refine (movables_c (HTM.out.below (Below.refl _ wm).drew) H1.out).mono ?_
        rintro e y1 ⟨rfl, hb⟩
        have hby1 := below_t (Below.refl _ wm).drew hb
        have HY1 := Lib.hid hby1
        have hDY1 := MD.out.below hby1
        go_wp2_with fail
        refine hK.out _ _ (Fr.trans hHeld (Fr.below _ hb) (fun i hi => .inl hi)) (fun hHeld => ?_)
        clear hK K hb hby1
        refine wpAnyH_ready (rs := [7]) (by kernel_rfl) (by simp) ?_
        refine AllReadyH.cons (o := ⟨some 35, _, _, _, _, _⟩) rfl (fun K hK => ?_) AllReadyH.nil
        go_simp
        refine (movables_c (HTM.out.below HY1.out) H2.out).mono ?_
        rintro e y2 ⟨rfl, hb⟩
        have hby2 := below_t HY1.out hb
        have HY2 := Lib.hid hby2
        have hDY2 := MD.out.below hby2
        go_wp2_with fail
        refine hK.out _ _ (Fr.trans hHeld (Fr.below _ hb) (fun i hi => .inl hi)) (fun hHeld => ?_)
        clear hK K hb hby2
        refine wpAnyH_take (i := 8) (oi := ⟨some 36, _, _, _, _, _⟩) (v := .int .i64 (x1 - x2)) rfl (by kernel_rfl) (by kernel_rfl) (by kernel_rfl) (fun _ _ _ h => h) (Or.inl ⟨by rfl, fun Xw hSW => by have q := wrB b1 b2; go_simp; first | done | exact q | (trace_state; fail)⟩) hHeld ?_
        simp only [Act.put, List.setIfInBounds_toArray, List.set_cons_zero, List.set_cons_succ]
        refine wpAnyH_take (i := 9) (oi := ⟨some 37, _, _, _, _, _⟩) (v := .int .i64 (x1 - x2)) rfl (by kernel_rfl) (by kernel_rfl) (by kernel_rfl) (fun _ _ _ h => h) (Or.inl ⟨by rfl, fun Xw hSW => by have q := wrB b1 b2; go_simp; first | done | exact q | (trace_state; fail)⟩) hHeld ?_
        simp only [Act.put, List.setIfInBounds_toArray, List.set_cons_zero, List.set_cons_succ]
        refine wpAnyH_take (i := 10) (oi := ⟨some 38, _, _, _, _, _⟩) (v := .pointer (some ⟨bd, 0, none⟩)) rfl (by kernel_rfl) (by kernel_rfl) (by kernel_rfl) (fun _ _ _ h => h) (Or.inl ⟨by rfl, fun Xw hSW => by go_simp⟩) hHeld ?_
        simp only [Act.put, List.setIfInBounds_toArray, List.set_cons_zero, List.set_cons_succ]
        refine wpAnyH_take (i := 11) (oi := ⟨some 39, _, _, _, _, _⟩) (v := .pointer (some ⟨bd, 2, none⟩)) rfl (by kernel_rfl) (by kernel_rfl) (by kernel_rfl) (fun _ _ _ h => h) (Or.inl ⟨by rfl, fun Xw hSW => by go_simp⟩) hHeld ?_
        simp only [Act.put, List.setIfInBounds_toArray, List.set_cons_zero, List.set_cons_succ]
        have f2 := hDY2.frozen 2
        have e2 := hDY2.cell (i := 2) rfl
        refine wpAnyH_ready (rs := [12]) (by kernel_rfl) (by simp) ?_
        refine AllReadyH.cons (o := ⟨none, _, _, _, _, _⟩) rfl (fun K hK => ?_) AllReadyH.nil
        go_simp
        refine hK.out _ _ (Fr.trans hHeld (Fr.set (fun k => k = bd) _ _ _ rfl) (fun i hi => .inl hi)) (fun hHeld => ?_)
        clear hK K
        refine wpAnyH_done (by kernel_rfl) ?_ _
        refine NoPanic.normal ?_
        clear f2 e2
        go_wp2_with fail
        go_end0
        refine ⟨rfl, _, ?_, hDY2.set 2 _, ?_⟩
        · exact ((MR.out.below HY2.out).grown (grown_set _ bd 2 _) (.inr (own_ne (MR.out.below HY2.out) hDY2 (by decide)))).mono (by have := HS.out; have := MZ.out; omega)
        · exact (MF.out.trans hHeld (fun i hi => .inl hi))
      · go_simp
        refine (movables_c (HTM.out.below (Below.refl _ wm).drew) H1.out).mono ?_
        rintro e y3 ⟨rfl, hb⟩
        have hby3 := below_t (Below.refl _ wm).drew hb
        have HY3 := Lib.hid hby3
        have hDY3 := MD.out.below hby3
        go_wp2_with fail
        refine hK.out _ _ (Fr.trans hHeld (Fr.below _ hb) (fun i hi => .inl hi)) (fun hHeld => ?_)
        clear hK K hb hby3
        refine wpAnyH_ready (rs := [3, 7]) (by kernel_rfl) (by simp) ?_
        refine AllReadyH.cons (o := ⟨some 31, _, _, _, _, _⟩) rfl (fun K hK => ?_) (AllReadyH.cons (o := ⟨some 35, _, _, _, _, _⟩) rfl (fun K hK => ?_) AllReadyH.nil)
        · have e2 := hDY3.cell (i := 2) rfl
          go_simp
          refine hK.out _ _ hHeld (fun hHeld => ?_)
          clear hK K e2
          refine wpAnyH_ready (rs := [7]) (by kernel_rfl) (by simp) ?_
          refine AllReadyH.cons (o := ⟨some 35, _, _, _, _, _⟩) rfl (fun K hK => ?_) AllReadyH.nil
          go_simp
          refine (movables_c (HTM.out.below HY3.out) H2.out).mono ?_
          rintro e y4 ⟨rfl, hb⟩
          have hby4 := below_t HY3.out hb
          have HY4 := Lib.hid hby4
          have hDY4 := MD.out.below hby4
          go_wp2_with fail
          refine hK.out _ _ (Fr.trans hHeld (Fr.below _ hb) (fun i hi => .inl hi)) (fun hHeld => ?_)
          clear hK K hb hby4
          refine wpAnyH_take (i := 8) (oi := ⟨some 36, _, _, _, _, _⟩) (v := .int .i64 (x1 - x2)) rfl (by kernel_rfl) (by kernel_rfl) (by kernel_rfl) (fun _ _ _ h => h) (Or.inl ⟨by rfl, fun Xw hSW => by have q := wrB b1 b2; go_simp; first | done | exact q | (trace_state; fail)⟩) hHeld ?_
          simp only [Act.put, List.setIfInBounds_toArray, List.set_cons_zero, List.set_cons_succ]
          refine wpAnyH_take (i := 9) (oi := ⟨some 37, _, _, _, _, _⟩) (v := .int .i64 (x1 - x2)) rfl (by kernel_rfl) (by kernel_rfl) (by kernel_rfl) (fun _ _ _ h => h) (Or.inl ⟨by rfl, fun Xw hSW => by have q := wrB b1 b2; go_simp; first | done | exact q | (trace_state; fail)⟩) hHeld ?_
          simp only [Act.put, List.setIfInBounds_toArray, List.set_cons_zero, List.set_cons_succ]
          refine wpAnyH_take (i := 10) (oi := ⟨some 38, _, _, _, _, _⟩) (v := .pointer (some ⟨bd, 0, none⟩)) rfl (by kernel_rfl) (by kernel_rfl) (by kernel_rfl) (fun _ _ _ h => h) (Or.inl ⟨by rfl, fun Xw hSW => by go_simp⟩) hHeld ?_
          simp only [Act.put, List.setIfInBounds_toArray, List.set_cons_zero, List.set_cons_succ]
          refine wpAnyH_take (i := 11) (oi := ⟨some 39, _, _, _, _, _⟩) (v := .pointer (some ⟨bd, 2, none⟩)) rfl (by kernel_rfl) (by kernel_rfl) (by kernel_rfl) (fun _ _ _ h => h) (Or.inl ⟨by rfl, fun Xw hSW => by go_simp⟩) hHeld ?_
          simp only [Act.put, List.setIfInBounds_toArray, List.set_cons_zero, List.set_cons_succ]
          have f2 := hDY4.frozen 2
          have e2 := hDY4.cell (i := 2) rfl
          refine wpAnyH_ready (rs := [12]) (by kernel_rfl) (by simp) ?_
          refine AllReadyH.cons (o := ⟨none, _, _, _, _, _⟩) rfl (fun K hK => ?_) AllReadyH.nil
          go_simp
          refine hK.out _ _ (Fr.trans hHeld (Fr.set (fun k => k = bd) _ _ _ rfl) (fun i hi => .inl hi)) (fun hHeld => ?_)
          clear hK K
          refine wpAnyH_done (by kernel_rfl) ?_ _
          refine NoPanic.normal ?_
          clear f2 e2
          go_wp2_with fail
          go_end0
          refine ⟨rfl, _, ?_, hDY4.set 2 _, ?_⟩
          · exact ((MR.out.below HY4.out).grown (grown_set _ bd 2 _) (.inr (own_ne (MR.out.below HY4.out) hDY4 (by decide)))).mono (by have := HS.out; have := MZ.out; omega)
          · exact (MF.out.trans hHeld (fun i hi => .inl hi))
        · go_simp
          refine (movables_c (HTM.out.below HY3.out) H2.out).mono ?_
          rintro e y5 ⟨rfl, hb⟩
          have hby5 := below_t HY3.out hb
          have HY5 := Lib.hid hby5
          have hDY5 := MD.out.below hby5
          go_wp2_with fail
          refine hK.out _ _ (Fr.trans hHeld (Fr.below _ hb) (fun i hi => .inl hi)) (fun hHeld => ?_)
          clear hK K hb hby5
          refine wpAnyH_take (i := 8) (oi := ⟨some 36, _, _, _, _, _⟩) (v := .int .i64 (x1 - x2)) rfl (by kernel_rfl) (by kernel_rfl) (by kernel_rfl) (fun _ _ _ h => h) (Or.inl ⟨by rfl, fun Xw hSW => by have q := wrB b1 b2; go_simp; first | done | exact q | (trace_state; fail)⟩) hHeld ?_
          simp only [Act.put, List.setIfInBounds_toArray, List.set_cons_zero, List.set_cons_succ]
          refine wpAnyH_ready (rs := [3]) (by kernel_rfl) (by simp) ?_
          refine AllReadyH.cons (o := ⟨some 31, _, _, _, _, _⟩) rfl (fun K hK => ?_) AllReadyH.nil
          have e2 := hDY5.cell (i := 2) rfl
          go_simp
          refine hK.out _ _ hHeld (fun hHeld => ?_)
          clear hK K e2
          refine wpAnyH_take (i := 9) (oi := ⟨some 37, _, _, _, _, _⟩) (v := .int .i64 (x1 - x2)) rfl (by kernel_rfl) (by kernel_rfl) (by kernel_rfl) (fun _ _ _ h => h) (Or.inl ⟨by rfl, fun Xw hSW => by have q := wrB b1 b2; go_simp; first | done | exact q | (trace_state; fail)⟩) hHeld ?_
          simp only [Act.put, List.setIfInBounds_toArray, List.set_cons_zero, List.set_cons_succ]
          refine wpAnyH_take (i := 10) (oi := ⟨some 38, _, _, _, _, _⟩) (v := .pointer (some ⟨bd, 0, none⟩)) rfl (by kernel_rfl) (by kernel_rfl) (by kernel_rfl) (fun _ _ _ h => h) (Or.inl ⟨by rfl, fun Xw hSW => by go_simp⟩) hHeld ?_
          simp only [Act.put, List.setIfInBounds_toArray, List.set_cons_zero, List.set_cons_succ]
          refine wpAnyH_take (i := 11) (oi := ⟨some 39, _, _, _, _, _⟩) (v := .pointer (some ⟨bd, 2, none⟩)) rfl (by kernel_rfl) (by kernel_rfl) (by kernel_rfl) (fun _ _ _ h => h) (Or.inl ⟨by rfl, fun Xw hSW => by go_simp⟩) hHeld ?_
          simp only [Act.put, List.setIfInBounds_toArray, List.set_cons_zero, List.set_cons_succ]
          have f2 := hDY5.frozen 2
          have e2 := hDY5.cell (i := 2) rfl
          refine wpAnyH_ready (rs := [12]) (by kernel_rfl) (by simp) ?_
          refine AllReadyH.cons (o := ⟨none, _, _, _, _, _⟩) rfl (fun K hK => ?_) AllReadyH.nil
          go_simp
          refine hK.out _ _ (Fr.trans hHeld (Fr.set (fun k => k = bd) _ _ _ rfl) (fun i hi => .inl hi)) (fun hHeld => ?_)
          clear hK K
          refine wpAnyH_done (by kernel_rfl) ?_ _
          refine NoPanic.normal ?_
          clear f2 e2
          go_wp2_with fail
          go_end0
          refine ⟨rfl, _, ?_, hDY5.set 2 _, ?_⟩
          · exact ((MR.out.below HY5.out).grown (grown_set _ bd 2 _) (.inr (own_ne (MR.out.below HY5.out) hDY5 (by decide)))).mono (by have := HS.out; have := MZ.out; omega)
          · exact (MF.out.trans hHeld (fun i hi => .inl hi))
end BurnW
end Go.Proofs.YtlahkmkipciiiaaDoor
