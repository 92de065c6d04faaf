import Derived.Defers
import Derived.Recover
import Derived.Test.YtpimkdaikoclnaaDoorFlK12
import Derived.Test.YtpimkdaikoclnaaDoorFlK13
import Derived.Deep.RegionHeld3
namespace Go.Proofs.YtpimkdaikoclnaaDoor
open Go.RowKit
set_option linter.unusedVariables false
set_option linter.unusedSimpArgs false
namespace FloodW
open BlkP RowG GlowW FloodP
theorem idle_d (w : World) : CallsD Tryd.prog 25 #[] .returning w fun e u' w' => e = .returned (.tuple #[]) ∧ u' = .returning ∧ w' = w := by
 refine callsD_of_wpS Tryd.func25 rfl fun c₀ cs hu => ?_
 apply wpS_region
 simp [wpOpsS, go_sem, recoverD, hu, Tryd.ntmps25, Exit.thenS, bodyPostS, results, Tryd.results25]
 cases c₀
 simp_all
theorem run_mkM (w : World) : (Instr.makeMap TM none).run Tryd.prog w = .ok (.map (some w.heap.size)) (w.alloc (.map #[] 0)) := rfl
set_option maxRecDepth 100000 in
set_option maxHeartbeats 16000000 in
theorem change_c {w : World} {f : Fld} {p : V} {o1 o2 : Nat} (h : FldM w f) (hA : Old f p (o1, o2)) (hT : KindW.Tab w) (hak : f.ak.length ≤ 10000) (hts : f.ts.length ≤ 10000) (hg : ¬ SC f 0) :
  Calls Tryd.prog 11 #[.iface 29 (.pointer (some ⟨f.F, 0, none⟩)), .agg #[.int .i64 p.1, .int .i64 p.2.1, .int .i64 p.2.2], .agg #[.int .u8 o1, .int .u8 o2]] w (ChangeP w f p (o1, o2)) := by
 have HF := Lib.hid h
 have HA := Lib.hid hA
 have HT := Lib.hid hT
 have HAK := Lib.hid hak
 have HTS := Lib.hid hts
 have HG := Lib.hid hg
 have HP := Lib.hid (in_may hA.fw hA.inb)
 have HMAY := Lib.hid (show PlaceW.mayB p.1 p.2.1 p.2.2 = true from mayB_iff.2 (in_may hA.fw hA.inb))
 clear h hA hT hak hts hg
 go_enter_defers Tryd.func11, Tryd.ntmps11
 go_wp2_with fail
 go_at_call 24
 refine calls_named (S := fun W => Below w.heap.size w W ∧ Blk W w.heap.size TP [.int .i64 p.1, .int .i64 p.2.1, .int .i64 p.2.2] ∧ Blk W (w.heap.size + 1) TC [.int .u8 o1, .int .u8 o2]) ⟨by (repeat' (first | (with_reducible exact Below.refl _ _) | (with_reducible refine Below.setCell ?_ (by (first | omega | (simp; done) | (simp; omega))) _) | (with_reducible refine Below.alloc ?_ (by (first | omega | (simp; done) | (simp; omega))) _) | (with_reducible refine Below.drew ?_) | (with_reducible refine below_drewN ?_ _))), by (repeat' (first | (with_reducible refine BlkP.Blk.drew ?_) | (with_reducible refine BlkP.Blk.drewN ?_ _) | (with_reducible refine BlkP.Blk.setAt (us := ?_) (by first | omega | (simp; done) | (simp; omega)) rfl ?_ ?_) | (with_reducible refine BlkP.Blk.otherAt ?_ (by first | omega | (simp; done) | (simp; omega))) | (with_reducible refine BlkP.Blk.newA' (by first | omega | (simp; done) | (simp; omega)) rfl) | (with_reducible refine BlkP.Blk.alloc ?_ _) | (exact rfl))), by (repeat' (first | (with_reducible refine BlkP.Blk.drew ?_) | (with_reducible refine BlkP.Blk.drewN ?_ _) | (with_reducible refine BlkP.Blk.setAt (us := ?_) (by first | omega | (simp; done) | (simp; omega)) rfl ?_ ?_) | (with_reducible refine BlkP.Blk.otherAt ?_ (by first | omega | (simp; done) | (simp; omega))) | (with_reducible refine BlkP.Blk.newA' (by first | omega | (simp; done) | (simp; omega)) rfl) | (with_reducible refine BlkP.Blk.alloc ?_ _) | (exact rfl)))⟩ ?_
 rintro W1 ⟨hb1, hp1, hc1⟩
 refine (PlaceW.may_b HMAY.out _).mono ?_
 rintro e W2 ⟨rfl, hb2⟩
 have HB2 := Lib.hid (hb1.trans (hb2.mono hb1.size))
 have HP2 := Lib.hid (hp1.below hb2)
 have HC2 := Lib.hid (hc1.below hb2)
 have b0 := HP2.out.cell (i := 0) rfl
 have b1 := HP2.out.cell (i := 1) rfl
 have b2 := HP2.out.cell (i := 2) rfl
 have c0 := HC2.out.cell (i := 0) rfl
 have c1 := HC2.out.cell (i := 1) rfl
 clear hb1 hp1 hc1 hb2
 have hmk := run_mkM W2
 have hcl := HC2.out.lt
 have hpl := HP2.out.lt
 go_wp2_with fail
 clear b0 b1 b2 c0 c1 hmk hcl hpl
 obtain ⟨M, hM⟩ : ∃ M, W2.heap.size = M := ⟨_, rfl⟩
 have HM := Lib.hid hM
 go_at_call 26
 refine calls_named (S := fun W => Below w.heap.size w W ∧ Blk W (M + 1) TWk (wcells (ghB f p (o1, o2) (M + 1) M)) ∧ MapK W M []) ⟨HB2.out.trans ((show Below W2.heap.size W2 _ by (repeat' (first | (with_reducible exact Below.refl _ _) | (with_reducible refine Below.setCell ?_ (by (first | omega | (simp; done) | (simp; omega))) _) | (with_reducible refine Below.alloc ?_ (by (first | omega | (simp; done) | (simp; omega))) _) | (with_reducible refine Below.drew ?_) | (with_reducible refine below_drewN ?_ _)))).mono HB2.out.size), by rw [← hM]; (repeat' (first | (with_reducible refine BlkP.Blk.drew ?_) | (with_reducible refine BlkP.Blk.drewN ?_ _) | (with_reducible refine BlkP.Blk.setAt (us := ?_) (by first | omega | (simp; done) | (simp; omega)) rfl ?_ ?_) | (with_reducible refine BlkP.Blk.otherAt ?_ (by first | omega | (simp; done) | (simp; omega))) | (with_reducible refine BlkP.Blk.newA' (by first | omega | (simp; done) | (simp; omega)) rfl) | (with_reducible refine BlkP.Blk.alloc ?_ _) | (exact rfl))), by
  subst hM
  exact ((Below.refl (W2.alloc (.map #[] 0)).heap.size (W2.alloc (.map #[] 0))).alloc (Nat.le_refl _) _).block _ (by simp) |>.trans (heap_alloc_new W2 _)⟩ ?_
 rintro W3 ⟨hb3, hw3, hm3⟩
 rw [hM]
 have hgl := HT.out.size
 have hbz := HB2.out.size
 have hsx3 := sx_begin (o := (o1, o2)) (HF.out.below hb3) HA.out (HT.out.below hb3) HAK.out hw3 hm3 HG.out (by omega) (by omega)
 have hset : Calls Tryd.prog 26 #[.pointer (some ⟨M + 1, 0, none⟩), .agg #[.int .u8 o1, .int .u8 o2]] W3 (SettleP W3 (ghB f p (o1, o2) (M + 1) M) (o1, o2) (nowS f)) := settle_c hsx3 (begin_gh (wk := M + 1) (M := M) HA.out).setH
 refine hset.mono ?_
 rintro e W4 ⟨g2, rfl, hms, hsx4, hgo4, hkn, s1, s2, s3, s4⟩
 have hci := chg_iff (begin_gh (wk := M + 1) (M := M) HA.out) hms hsx4.st hkn ((begin_gh (wk := M + 1) (M := M) HA.out).done s1 s2 s3 s4)
 have HCI := Lib.hid hci
 have HMS := Lib.hid hms
 have HSX4 := Lib.hid hsx4
 have HB3 := Lib.hid hb3
 have HGO4 := Lib.hid hgo4
 have hoth : Calls Tryd.prog 27 #[.pointer (some ⟨M + 1, 0, none⟩)] W4 (OthersP W4 g2) := by
  have q := others_c hsx4
  rw [hms.same.1] at q
  exact q
 have HOTH := Lib.hid hoth
 clear hM hb3 hw3 hm3 hgl hbz hsx3 hset hms hsx4 hgo4 hkn s1 s2 s3 s4 hci hoth HP2 HC2
 go_wp2_with fail
 go_at_call 27
 refine HOTH.out.mono ?_
 clear HOTH
 rintro e W5 ⟨T, A, n, c, rfl, hlen, hdup, hmem, hup, hsx5, hgo5, hrow, hnew⟩
 have HLEN := Lib.hid hlen
 have HDUP := Lib.hid hdup
 have HUP := Lib.hid hup
 have HMEM := Lib.hid (show ∀ q, q ∈ T ↔ newL f q from fun q => (hmem q).trans (HCI.out.2 q))
 have HMEMK := Lib.hid (show ∀ q, q ∈ T → ∃ b, (q, b) ∈ g2.kn from fun q hq => by
  obtain ⟨⟨q', b⟩, hb, e⟩ := List.mem_map.1 ((hmem q).1 hq).1
  exact ⟨b, by rw [← e]; exact hb⟩)
 have HSX5 := Lib.hid hsx5
 have HGO5 := Lib.hid hgo5
 have HROW := Lib.hid hrow
 have HTB := Lib.hid (show ∀ k, g2.f.vT.ownBlock = some k → k < W4.heap.size from fun k hk => (HSX4.out.st.fld.ts.ge k hk).2)
 obtain ⟨gT, hgT, hgT2, hgT3⟩ : ∃ gT, (0 < n → A = some ⟨gT, 0, none⟩) ∧ (∀ k, g2.f.vT.ownBlock = some k → k ≠ gT) ∧ (0 < n → gT < W5.heap.size) := by
  obtain ⟨A', c', e1, _, _, e2⟩ := hrow.1.form hlen
  injection e1 with e1 _ _
  subst e1
  by_cases hn : 0 < n
  ·obtain ⟨gT, h1, h2, h3⟩ := e2 hn
   refine ⟨gT, fun _ => h1, fun k hk e => ?_, fun _ => h3⟩
   have h4 := HTB.out k hk
   have h5 := hnew gT (by rw [h1]; rfl)
   omega
  ·exact ⟨W4.heap.size, fun h => absurd h hn, fun k hk e => by have := HTB.out k hk; omega, fun h => absurd h hn⟩
 have HGT := Lib.hid hgT
 have HGT2 := Lib.hid hgT2
 have HGT3 := Lib.hid hgT3
 have HNW15 := Lib.hid (show ∀ q, (g2.nw false q, g2.nw true q).1 ≤ 15 ∧ (g2.nw false q, g2.nw true q).2 ≤ 15 from fun q => ⟨(HSX4.out.st.le false q).2, (HSX4.out.st.le true q).2⟩)
 have HTS2 := Lib.hid (show g2.f.ts.length ≤ 10000 from by
  obtain ⟨⟨_, _, _, _, _, _, e⟩, _⟩ := HMS.out
  rw [e]
  exact HTS.out)
 have HTL := Lib.hid (show T.length ≤ 1024 from by
  have q := nodup_len hdup (m := boxL f) (fun q hq => (boxL_mem HA.out.fw).2 ((HMEM.out q).1 hq).1)
  have := boxL_len HA.out.fw
  omega)
 have HWK := Lib.hid (show g2.wk = M + 1 ∧ g2.f.F = f.F from ⟨HMS.out.same.1, HMS.out.same.2.2.2⟩)
 have HINB := Lib.hid (show inB g2.f = inB f from by
  obtain ⟨⟨_, _, _, _, _, _, e⟩, _⟩ := HMS.out
  rw [e]
  rfl)
 clear hlen hdup hmem hup hsx5 hgo5 hrow hnew hgT hgT2 hgT3
 go_wp2_with fail
 go_loopw [6, 30] (fun v6 v30 wr => ∃ t ft, v6 = .int .i64 (t : Nat) ∧ v30 = .int .i64 (t : Nat) ∧ t ≤ n ∧ Lp W5 g2 (fun q => (g2.nw false q, g2.nw true q)) T gT t ft wr) (fun _ v _ => n - (intOf v).toNat)
 case atStart => exact ⟨0, g2.f, rfl, rfl, Nat.zero_le _, Lp.start HSX5.out.st.fld HGT2.out⟩
 case round =>
  obtain ⟨t, ft, rfl, rfl, ht, hlp⟩ := hrel
  have HLP := Lib.hid hlp
  by_cases htn : t < n
  ·have htI : (t : Int) < n := by omega
   have HWR := Lib.hid (show wrap64 ((t : Int) + 1) = ((t + 1 : Nat) : Int) by have := HTL.out; have := HLEN.out; rw [wr64 (by omega) (by omega)]; omega)
   have hA := HGT.out (by omega)
   have hgl := HGT3.out (by omega)
   subst hA
   obtain ⟨⟨qx, qy, qz⟩, hq⟩ : ∃ q, T[t]? = some q := ⟨_, List.getElem?_eq_getElem (by have := HLEN.out; omega)⟩
   have HQ := Lib.hid hq
   obtain ⟨kb, hkb⟩ := HMEMK.out _ (List.mem_of_getElem? hq)
   have HKB := Lib.hid hkb
   have HFK := Lib.hid (findK_of HSX5.out.st.dup hkb)
   have hrw := hlp.row HSX5.out.st HROW.out HGT2.out
   have r0 : wr.cell? ⟨gT, t * 3, none⟩ = some (.int .i64 qx) := hrw.cell (j := 0) hq rfl
   have r1 : wr.cell? ⟨gT, t * 3 + 1, none⟩ = some (.int .i64 qy) := hrw.cell (j := 1) hq rfl
   have r2 : wr.cell? ⟨gT, t * 3 + 2, none⟩ = some (.int .i64 qz) := hrw.cell (j := 2) hq rfl
   clear hlp hq hkb hrw
   go_wp2_with fail
   refine HeldP.wp_named (S := fun W => Below wr.heap.size wr W ∧ Blk W wr.heap.size TP [.int .i64 qx, .int .i64 qy, .int .i64 qz]) ⟨by (repeat' (first | (with_reducible exact Below.refl _ _) | (with_reducible refine Below.setCell ?_ (by (first | omega | (simp; done) | (simp; omega))) _) | (with_reducible refine Below.alloc ?_ (by (first | omega | (simp; done) | (simp; omega))) _) | (with_reducible refine Below.drew ?_) | (with_reducible refine below_drewN ?_ _))), by (repeat' (first | (with_reducible refine BlkP.Blk.drew ?_) | (with_reducible refine BlkP.Blk.drewN ?_ _) | (with_reducible refine BlkP.Blk.setAt (us := ?_) (by first | omega | (simp; done) | (simp; omega)) rfl ?_ ?_) | (with_reducible refine BlkP.Blk.otherAt ?_ (by first | omega | (simp; done) | (simp; omega))) | (with_reducible refine BlkP.Blk.newA' (by first | omega | (simp; done) | (simp; omega)) rfl) | (with_reducible refine BlkP.Blk.alloc ?_ _) | (exact rfl)))⟩ ?_
   rintro W6 ⟨hb6, hq6⟩
   have HQ6 := Lib.hid hq6
   have HLP6 := Lib.hid (HLP.out.below hb6)
   have hwork := HLP6.out.work HSX5.out.st
   rw [HWK.out.1] at hwork
   have HWK6 := Lib.hid hwork.1
   have HMP6 := Lib.hid hwork.2.1
   have HKN6 := Lib.hid (hwork.2.2 _ _ HKB.out)
   have hlit := lit_c (a := g2.nw false (qx, qy, qz)) (b := g2.nw true (qx, qy, qz)) (HLP6.out.below (Below.refl _ _).drew).fld (HLP6.out.fw HSX5.out.st.fw HNW15.out) (q := (qx, qy, qz)) (by rw [HLP6.out.inB, HINB.out]; exact ((HMEM.out _).1 (List.mem_of_getElem? HQ.out)).1) (by
    obtain ⟨vT, e⟩ := HLP6.out.f_
    rw [e]
    show (g2.f.ts ++ T.take t).length ≤ _
    rw [List.length_append, List.length_take]
    have := HTS2.out
    have := HTL.out
    omega)
   rw [HLP6.out.same.1, HWK.out.2] at hlit
   have HLIT := Lib.hid hlit
   have hq6l := hq6.lt
   clear r0 r1 r2 hb6 hq6 hwork hlit
   refine wp_region_noPanic ?_
   refine wp_region_held_drew (S := fun Xw => (Blk Xw wr.heap.size TP [.int .i64 qx, .int .i64 qy, .int .i64 qz] ∧ Blk Xw (M + 1) TWk (wcells g2)) ∧ MapK Xw g2.M g2.kn ∧ Blk Xw kb TK (kcells g2 (qx, qy, qz))) (by kernel_rfl) (⟨⟨HQ6.out, HWK6.out⟩, HMP6.out, HKN6.out⟩) (fun hHeld => ?_)
   refine wpAnyH_take (i := 0) (oi := ⟨some 34, _, _, _, _, _⟩) (v := (.iface 29 (.pointer (some ⟨f.F, 0, none⟩)))) rfl (by kernel_rfl) (by kernel_rfl) (by kernel_rfl) (fun _ _ _ h => h) (Or.inl ⟨by rfl, fun Xw hSW => by go_simp⟩) hHeld ?_
   simp only [Act.put, List.setIfInBounds_toArray, List.set_cons_zero, List.set_cons_succ]
   refine wpAnyH_take (i := 1) (oi := ⟨some 35, _, _, _, _, _⟩) (v := .agg #[.int .i64 qx, .int .i64 qy, .int .i64 qz]) rfl (by kernel_rfl) (by kernel_rfl) (by kernel_rfl) (fun _ _ _ h => h) (Or.inl ⟨by rfl, fun Xw hSW => by have b0 := hSW.1.1.cell (i := 0) rfl; have b1 := hSW.1.1.cell (i := 1) rfl; have b2 := hSW.1.1.cell (i := 2) rfl; go_simp⟩) hHeld ?_
   simp only [Act.put, List.setIfInBounds_toArray, List.set_cons_zero, List.set_cons_succ]
   refine wpAnyH_take (i := 2) (oi := ⟨some 36, _, _, _, _, _⟩) (v := .pointer (some ⟨M + 1, 0, none⟩)) rfl (by kernel_rfl) (by kernel_rfl) (by kernel_rfl) (fun _ _ _ h => h) (Or.inl ⟨by rfl, fun Xw hSW => by go_simp⟩) hHeld ?_
   simp only [Act.put, List.setIfInBounds_toArray, List.set_cons_zero, List.set_cons_succ]
   refine wpAnyH_take (i := 3) (oi := ⟨some 37, _, _, _, _, _⟩) (v := .pointer (some ⟨M + 1, 0, none⟩)) rfl (by kernel_rfl) (by kernel_rfl) (by kernel_rfl) (fun _ _ _ h => h) (Or.inl ⟨by rfl, fun Xw hSW => by go_simp⟩) hHeld ?_
   simp only [Act.put, List.setIfInBounds_toArray, List.set_cons_zero, List.set_cons_succ]
   refine wpAnyH_take (i := 4) (oi := ⟨some 38, _, _, _, _, _⟩) (v := .pointer (some ⟨M + 1, 5, none⟩)) rfl (by kernel_rfl) (by kernel_rfl) (by kernel_rfl) (fun _ _ _ h => h) (Or.inl ⟨by rfl, fun Xw hSW => by go_simp⟩) hHeld ?_
   simp only [Act.put, List.setIfInBounds_toArray, List.set_cons_zero, List.set_cons_succ]
   refine wpAnyH_take (i := 5) (oi := ⟨some 39, _, _, _, _, _⟩) (v := .map (some g2.M)) rfl (by kernel_rfl) (by kernel_rfl) (by kernel_rfl) (fun _ _ _ h => h) (Or.inl ⟨by rfl, fun Xw hSW => by have k5 := hSW.1.2.cell (i := 5) rfl; go_simp⟩) hHeld ?_
   simp only [Act.put, List.setIfInBounds_toArray, List.set_cons_zero, List.set_cons_succ]
   refine wpAnyH_take (i := 6) (oi := ⟨some 40, _, _, _, _, _⟩) (v := .agg #[.int .i64 qx, .int .i64 qy, .int .i64 qz]) rfl (by kernel_rfl) (by kernel_rfl) (by kernel_rfl) (fun _ _ _ h => h) (Or.inl ⟨by rfl, fun Xw hSW => by have b0 := hSW.1.1.cell (i := 0) rfl; have b1 := hSW.1.1.cell (i := 1) rfl; have b2 := hSW.1.1.cell (i := 2) rfl; go_simp⟩) hHeld ?_
   simp only [Act.put, List.setIfInBounds_toArray, List.set_cons_zero, List.set_cons_succ]
   refine wpAnyH_take (i := 7) (oi := ⟨some 41, _, _, _, _, _⟩) (v := .pointer (some ⟨kb, 0, none⟩)) rfl (by kernel_rfl) (by kernel_rfl) (by kernel_rfl) (fun _ _ _ h => h) (Or.inl ⟨by rfl, fun Xw hSW => by have hl := run_lookupK (qx, qy, qz) hSW.2.1; rw [HFK.out] at hl; simp only [ptrK] at hl; go_simp⟩) hHeld ?_
   simp only [Act.put, List.setIfInBounds_toArray, List.set_cons_zero, List.set_cons_succ]
   refine wpAnyH_take (i := 8) (oi := ⟨some 42, _, _, _, _, _⟩) (v := .pointer (some ⟨kb, 0, none⟩)) rfl (by kernel_rfl) (by kernel_rfl) (by kernel_rfl) (fun _ _ _ h => h) (Or.inl ⟨by rfl, fun Xw hSW => by go_simp⟩) hHeld ?_
   simp only [Act.put, List.setIfInBounds_toArray, List.set_cons_zero, List.set_cons_succ]
   refine wpAnyH_take (i := 9) (oi := ⟨some 43, _, _, _, _, _⟩) (v := .pointer (some ⟨kb, 5, none⟩)) rfl (by kernel_rfl) (by kernel_rfl) (by kernel_rfl) (fun _ _ _ h => h) (Or.inl ⟨by rfl, fun Xw hSW => by go_simp⟩) hHeld ?_
   simp only [Act.put, List.setIfInBounds_toArray, List.set_cons_zero, List.set_cons_succ]
   refine wpAnyH_take (i := 10) (oi := ⟨some 44, _, _, _, _, _⟩) (v := .agg #[.int .u8 (g2.nw false (qx, qy, qz) : Int), .int .u8 (g2.nw true (qx, qy, qz) : Int)]) rfl (by kernel_rfl) (by kernel_rfl) (by kernel_rfl) (fun _ _ _ h => h) (Or.inl ⟨by rfl, fun Xw hSW => by have a0 : Xw.cell? ⟨kb, 5, none⟩ = some (.int .u8 (g2.nw false (qx, qy, qz) : Int)) := hSW.2.2.cell (i := 5) rfl; have a1 : Xw.cell? ⟨kb, 6, none⟩ = some (.int .u8 (g2.nw true (qx, qy, qz) : Int)) := hSW.2.2.cell (i := 6) rfl; go_simp⟩) hHeld ?_
   simp only [Act.put, List.setIfInBounds_toArray, List.set_cons_zero, List.set_cons_succ]
   refine wpAnyH_take (i := 11) (oi := ⟨some 45, _, _, _, _, _⟩) (v := (.iface 29 (.pointer (some ⟨f.F, 0, none⟩)))) rfl (by kernel_rfl) (by kernel_rfl) (by kernel_rfl) (fun _ _ _ h => h) (Or.inl ⟨by rfl, fun Xw hSW => by go_simp⟩) hHeld ?_
   simp only [Act.put, List.setIfInBounds_toArray, List.set_cons_zero, List.set_cons_succ]
   refine wpAnyH_take (i := 12) (oi := ⟨some 46, _, _, _, _, _⟩) (v := (.iface 29 (.pointer (some ⟨f.F, 0, none⟩)))) rfl (by kernel_rfl) (by kernel_rfl) (by kernel_rfl) (fun _ _ _ h => h) (Or.inl ⟨by rfl, fun Xw hSW => by go_simp⟩) hHeld ?_
   simp only [Act.put, List.setIfInBounds_toArray, List.set_cons_zero, List.set_cons_succ]
   refine wpAnyH_ready (rs := [13]) (by kernel_rfl) (by simp) ?_
   refine AllReadyH.cons (o := ⟨some 47, _, _, _, _, _⟩) rfl (fun K hK => ?_) AllReadyH.nil
   go_simp
   refine HLIT.out.mono ?_
   rintro e W7 ⟨rfl, hlp7⟩
   have hqb : Blk W7 wr.heap.size TP [.int .i64 qx, .int .i64 qy, .int .i64 qz] := by
    obtain ⟨_, _, _, hfr, _⟩ := hlp7
    refine hfr.blk (w := W6.drew) HQ6.out (fun hk => ?_)
    rcases hk with e | e | e
    ·have h1 := HLP.out.fld.blk.lt
     omega
    ·have h1 := (HLP.out.fld.ts.ge _ e).2
     omega
    ·have h1 := (HLP.out.fld.ls.ge _ e).2
     omega
   obtain ⟨f2, hn7⟩ := (HLP6.out.below (Below.refl _ _).drew).next HQ.out hgl hlp7
   have HLP7 := Lib.hid hn7
   have hw7 := hn7.work HSX5.out.st
   rw [HWK.out.1] at hw7
   have HH7 := Lib.hid (show (Blk W7 wr.heap.size TP [.int .i64 qx, .int .i64 qy, .int .i64 qz] ∧ Blk W7 (M + 1) TWk (wcells g2)) ∧ MapK W7 g2.M g2.kn ∧ Blk W7 kb TK (kcells g2 (qx, qy, qz)) from ⟨⟨hqb, hw7.1⟩, hw7.2.1, hw7.2.2 _ _ HKB.out⟩)
   clear hqb hn7 hw7 hlp7
   try go_wp2_with fail
   refine hK.out _ _ (HH7.out) (fun hHeld => ?_)
   clear hK K
   refine wpAnyH_done (by kernel_rfl) ?_ _
   refine NoPanic.normal ?_
   go_wp2_with fail
   go_roundw
   case rel => exact ⟨t + 1, f2, by rw [HWR.out], by rw [HWR.out], by omega, HLP7.out⟩
   case measure =>
    rw [HWR.out]
    simp only [intOf]
    omega
  ·have hte : t = n := by omega
   subst hte
   have htI : ¬ (t : Int) < t := by omega
   clear htn ht
   go_wp2_with fail
   refine leaves_cons (f := 25) (args := #[]) (by simp) (by simp [go_sem]) ?_
   refine (idle_d _).mono ?_
   rintro e u' w'' ⟨rfl, rfl, rfl⟩
   refine ⟨_, results_tmp rfl _ _ _, T, ft, by rw [HLEN.out]; rfl, ?_⟩
   obtain ⟨vT, eft⟩ := HLP.out.f_
   obtain ⟨⟨vA, ak, kn, lo, ow, nw, eg⟩, _⟩ := HMS.out
   have hgf : g2.f = { f with vA := vA, ak := ak } := by rw [eg]; rfl
   have hkd : g2.kd = nearK f p (o1, o2) := by rw [eg]; rfl
   have hak0 : g2.ak0 = f.ak := by rw [eg]; rfl
   obtain ⟨_, l, hl1, hl2, hl3⟩ := HSX5.out.st.asks
   have hkl := HSX5.out.st.kn_le
   have hMz : w.heap.size ≤ M := by rw [← HM.out]; exact HB2.out.size
   have hss : ∀ i, Ss (ghB f p (o1, o2) (M + 1) M) i → SC f i ∨ w.heap.size ≤ i := fun i hi => by
    rcases hi with e | e | e | e | e
    ·exact .inl (.inl e)
    ·exact .inl (.inr (.inl e))
    ·have e' : i = M + 1 := e
     exact .inr (by omega)
    ·have e' : i = M := e
     exact .inr (by omega)
    ·cases e
   have hss2 : ∀ i, Ss g2 i → SC f i ∨ w.heap.size ≤ i := fun i hi => by
    rcases HGO4.out.new i hi with q | q
    ·exact hss i q
    ·exact .inr (Nat.le_trans HB3.out.size q)
   have hsl : ∀ i, SLg g2 i → SC f i := fun i hi => by
    unfold SLg at hi
    rw [hgf] at hi
    rcases hi with e | e | e
    ·exact .inl e
    ·exact .inr (.inr (.inl e))
    ·exact .inr (.inr (.inr e))
   refine ⟨HLP.out.fld, ⟨vA, vT, l, ?_, by omega, fun q hq => ?_⟩, (((Fr.below (SC f) HB3.out).trans HGO4.out.fr hss).trans HGO5.out.fr hss2).trans HLP.out.fr (fun i hi => .inl (hsl i hi)), fun k hk => ?_, HDUP.out, HUP.out, HMEM.out⟩
   ·have hts : T.take t = T := List.take_of_length_le (by rw [HLEN.out]; exact Nat.le_refl _)
    have hls : setL f (fun q => (g2.nw false q, g2.nw true q)) T f.ls = rightL f := by
     rw [← setL_right HA.out.fw HMEM.out, HCI.out.1 false, HCI.out.1 true]
     rfl
    have hakE : ak = f.ak ++ l := by
     rw [hgf, hak0] at hl1
     exact hl1
    rw [eft, hts, hgf, hakE]
    show ({ f with vA := vA, vT := vT, ak := f.ak ++ l, ts := f.ts ++ T, ls := setL f (fun q => (g2.nw false q, g2.nw true q)) T f.ls } : Fld) = _
    rw [hls]
   ·have q1 := (HSX5.out.st.few q (hl3 q hq)).2.2
    rw [hkd] at q1
    exact q1
   ·rcases hk with e | e | e | e
    ·exact .inl (.inl (e.trans (HLP.out.same.1.trans HWK.out.2)))
    ·rw [eft] at e
     exact hss2 k (.inr (.inl e))
    ·rcases (HLP.out.new k e).2 with q | q
     ·exact .inl (hsl k q)
     ·have h1 := HB3.out.size
      have h2 := HGO4.out.fr.size
      have h3 := HGO5.out.fr.size
      exact .inr (by omega)
    ·rw [HLP.out.same.2.1, hgf] at e
     exact .inl (.inr (.inr (.inr e)))
end FloodW
end Go.Proofs.YtpimkdaikoclnaaDoor
namespace Go.Proofs.YtpimkdaikoclnaaDoor
open Go.RowKit
set_option linter.unusedVariables false
set_option linter.unusedSimpArgs false
namespace FloodW
open BlkP RowG GlowW FloodP
theorem FldM.putM {f : Fld} {w : World} {gl n c : Nat} (h : FldM w f) (hv : f.vC = .slice (some ⟨gl, 0, none⟩) n c) {i : Nat} {x : Nat × Nat} (hx : f.cs[i]? = some x) (a b : Nat) :
  FldM ((w.setCell ⟨gl, i * 2, none⟩ (.int .u8 a)).setCell ⟨gl, i * 2 + 1, none⟩ (.int .u8 b)) (f.put i (a, b)) ∧ Fr (fun k => k = gl) w ((w.setCell ⟨gl, i * 2, none⟩ (.int .u8 a)).setCell ⟨gl, i * 2 + 1, none⟩ (.int .u8 b)) := by
 obtain ⟨h1, h2⟩ := own2_store (hv ▸ h.cs) hx a b
 obtain ⟨us, hu⟩ := own_cells h.cs (g := gl) (by rw [hv]; rfl)
 have key : ∀ {α : Type} {e : Enc α} {E : TypeId} {v : Value} {l : List α}, RowG.Own e E w 0 v l → E ≠ TC → ∀ k, v.ownBlock = some k → ¬ k = gl := fun ho hE k e e2 => by
  obtain ⟨us2, hu2⟩ := own_cells ho e
  rw [e2] at hu2
  exact Blk.ne hu2 hu hE rfl
 refine ⟨⟨h2.blk h.blk (fun e => Blk.ne h.blk hu (by decide) e), ?_, h2.own h.ls (key h.ls (by decide)), h2.own h.ak (key h.ak (by decide)), h2.own h.ts (key h.ts (by decide)), h.dj⟩, h2⟩
 show RowG.Own enc2 TC _ 0 f.vC (f.cs.set i (a, b))
 rw [hv]
 exact h1
def colL (g : Fld) : List (Nat × Nat) := (List.range 16).map fun (j : Nat) => (litV g (rightL g) false (3, 48 + (j : Int), 3), litV g (rightL g) true (3, 48 + (j : Int), 3))
def OverP (w : World) (y : Nat) (c : Nat × Nat) (e : Ending) (w' : World) : Prop := ∃ (f : Fld) (T : List V) (v : Value), e = .returned (.tuple #[.int .i64 (T.length : Nat), v]) ∧ Ov f ∧ f.ls = rightL f ∧ T.Nodup ∧ (∀ q : V, q ∈ T ↔ newL (f.put (49 * y + 24) c) q) ∧ RowG.Own enc2 TL w' w.heap.size v (colL (f.put (49 * y + 24) c)) ∧ Below w.heap.size w w'
abbrev TSL : TypeId := 37
section
variable {w0 : World} {ops : Array Oper} {rest : List Oper} {o : Oper} {a : Act} {Q : Exit → Act → World → Prop} {W : World}
theorem wp_pushLt (hgd : o.guard = none) (s x : Operand) (ho : o.op = .call { callee := .builtin .append, args := #[s, x], argTypes := #[TSL, TSL] }) {B : Nat} {v : Value} {l : List (Nat × Nat)} {y : Nat × Nat} {x1 x2 : Nat} {n : Nat}
  (hW : W = w0.alloc (.cells #[.int .u8 x1, .int .u8 x2] TL)) (hy : y = (x1, x2)) (hs : a.eval s = v) (hown : RowG.Own enc2 TL w0 B v l) (hx : a.eval x = .slice (some ⟨w0.heap.size, 0, none⟩) 1 1) (hn : l.length = n) (hl : n ≤ 1000000) (hB : B ≤ w0.heap.size)
  (h : ∀ g c w', Pushed enc2 TL w0 B v l y (n + 1) g c w' → wpList Tryd.prog ops Q rest (a.put o.dst (.slice (some ⟨g, 0, none⟩) (n + 1) c)) w') : wpList Tryd.prog ops Q (o :: rest) a W := by
 subst hW hy hn
 refine wpList_plain hgd fun K hK => ?_
 obtain ⟨g, cp, w', hr, h2, h3, h4⟩ := run_pushG enc2 underLights infoLight rfl (by decide) (by decide) (y := (x1, x2)) (c := #[.int .u8 x1, .int .u8 x2]) rfl hown hl hB o.type
 unfold Oper.wp execOp
 simp only [ho, resolve, invoke, builtin, Sem.run_bind, Sem.run_pure, Result.andThen_ok, List.map_toArray, List.map_cons, List.map_nil, hs, hx, hr]
 refine hK _ _ (h g cp w' ⟨h2, h3, ?_⟩)
 rcases h4 with q | ⟨g', q, hg⟩
 ·exact .inl q.symm
 ·have : g = g' := by simpa [Value.ownBlock] using q
  subst this
  exact .inr hg
end
def soil (m j : Nat) : List (Nat × Nat) := List.replicate j (3, 0) ++ List.replicate (m - j) (0, 0)
theorem soil_next {m j : Nat} (h : j < m) : (soil m j).set j (3, 0) = soil m (j + 1) := by
 unfold soil
 rw [List.set_append_right _ _ (by simp)]
 obtain ⟨d, hd⟩ : ∃ d, m - j = d + 1 := ⟨m - j - 1, by omega⟩
 rw [hd, show m - (j + 1) = d by omega, List.replicate_succ]
 simp [List.replicate_succ']
theorem soil_at {m j : Nat} (h : j < m) : (soil m j)[j]? = some (0, 0) := by
 unfold soil
 rw [List.getElem?_append_right (by simp), show j - (List.replicate j ((3 : Nat), (0 : Nat))).length = 0 by simp, List.getElem?_replicate, if_pos (by omega)]
theorem soil_zero (m : Nat) : soil m 0 = List.replicate m (0, 0) := by simp [soil]
theorem made_nil (n : Nat) : madeC [] n = List.replicate n (0, 0) := by
 apply List.ext_getElem?
 intro i
 unfold madeC
 rw [List.getElem?_map]
 by_cases h : i < n
 ·rw [List.getElem?_range h]
  simp [pickC_nil, h]
 ·rw [List.getElem?_eq_none (by simp; omega), List.getElem?_eq_none (by simp; omega)]
  rfl
def Rel1O (w W1 : World) (f : Fld) (v : Value) (wr : World) : Prop := ∃ j : Nat, v = .int .i64 (j : Nat) ∧ j ≤ 441 ∧ FldM wr { f with cs := soil 784 j } ∧ Fr (fun k => f.vC.ownBlock = some k) W1 wr
set_option maxRecDepth 100000 in
set_option maxHeartbeats 16000000 in
theorem over_c {w : World} {y k l : Nat} (hT : KindW.Tab w) (hy : y < 16) (hk : k < 256 ∧ l < 256) : Calls Tryd.prog 9 #[.int .i64 y, .agg #[.int .u8 k, .int .u8 l]] w (OverP w y (k, l)) := by
 have HT := Lib.hid hT
 have hgk := hT.size
 clear hT
 go_enter Tryd.func9, Tryd.ntmps9
 go_wp2_with fail
 go_at_call 10
 refine calls_named (S := fun W => Below w.heap.size w W ∧ Blk W w.heap.size TC [.int .u8 k, .int .u8 l]) ⟨by (repeat' (first | (with_reducible exact Below.refl _ _) | (with_reducible refine Below.setCell ?_ (by (first | omega | (simp; done) | (simp; omega))) _) | (with_reducible refine Below.alloc ?_ (by (first | omega | (simp; done) | (simp; omega))) _) | (with_reducible refine Below.drew ?_) | (with_reducible refine below_drewN ?_ _))), by (repeat' (first | (with_reducible refine BlkP.Blk.drew ?_) | (with_reducible refine BlkP.Blk.drewN ?_ _) | (with_reducible refine BlkP.Blk.setAt (us := ?_) (by first | omega | (simp; done) | (simp; omega)) rfl ?_ ?_) | (with_reducible refine BlkP.Blk.otherAt ?_ (by first | omega | (simp; done) | (simp; omega))) | (with_reducible refine BlkP.Blk.newA' (by first | omega | (simp; done) | (simp; omega)) rfl) | (with_reducible refine BlkP.Blk.alloc ?_ _) | (exact rfl)))⟩ ?_
 rintro W0 ⟨hb0, hc0⟩
 refine (made_c (w := W0) (p := (0, 48, 0)) (x := 6) (y := 15) (z := 6) (cl := []) (Rd.nil _ _) rfl (fun c hc => (by cases hc))).mono ?_
 rintro e W1 ⟨f, rfl, hmk⟩
 have hX : f.X = 7 := by have := hmk.x; omega
 have hY : f.Y = 16 := by have := hmk.y; omega
 have hZ : f.Z = 7 := by have := hmk.z; omega
 have hlo : f.lo = (0, 48, 0) := by
  rw [hmk.lo, hX, hY, hZ]
  rfl
 have hcs : f.cs = List.replicate 784 (0, 0) := by rw [hmk.cs, hX, hY, hZ, made_nil]
 have HX := Lib.hid (show f.X = 7 ∧ f.Y = 16 ∧ f.Z = 7 ∧ f.lo = (0, 48, 0) from ⟨hX, hY, hZ, hlo⟩)
 obtain ⟨A, cC, hvC, _, _, hAC⟩ := hmk.fld.cs.form (n := 784) (by rw [hcs]; exact List.length_replicate)
 obtain ⟨gC, rfl, _, hgl⟩ := hAC (by omega)
 have HVC := Lib.hid hvC
 have HMK := Lib.hid hmk
 have HC1 := Lib.hid (hc0.below hmk.bel)
 have HB1 := Lib.hid (hb0.trans (hmk.bel.mono hb0.size))
 have HF0 := Lib.hid (show w.heap.size + 1 ≤ f.F ∧ w.heap.size + 1 ≤ gC from by
  have h1 := hc0.lt
  have h2 := hmk.new f.F (.inl rfl)
  have h3 := hmk.new gC (.inr (.inl (by rw [hvC]; rfl)))
  omega)
 have HFM1 := Lib.hid (show FldM W1 { f with cs := soil 784 0 } from by rw [soil_zero, ← hcs]; exact hmk.fld)
 have HFG := Lib.hid (show f.F ≠ gC from fun e => by
  obtain ⟨us, hu⟩ := own_cells hmk.fld.cs (g := gC) (by rw [hvC]; rfl)
  exact Blk.ne hmk.fld.blk hu (by decide) e)
 clear hX hY hZ hlo hcs hvC hAC hmk hc0 hb0
 go_wp2_with fail
 go_loopw [7] (fun v wr => Rel1O w W1 f v wr) (fun v _ => 441 - (intOf v).toNat)
 case atStart => exact ⟨0, rfl, by omega, HFM1.out, Fr.refl _ _⟩
 case round =>
  obtain ⟨j, rfl, hj, hfm, hfr⟩ := hrel
  have HFM := Lib.hid hfm
  have HFR := Lib.hid hfr
  by_cases hj4 : j < 441
  ·have hjI : (j : Int) < 441 := by omega
   have hj7 : (j : Int) < 784 := by omega
   have hj78 : j < 784 := by omega
   have k6 : wr.cell? ⟨f.F, 6, none⟩ = some (.slice (some ⟨gC, 0, none⟩) 784 cC) := (hfm.blk.cell (i := 6) (v := f.vC) rfl).trans (congrArg some HVC.out)
   have HO := Lib.hid (show RowG.Own enc2 TC wr 0 (.slice (some ⟨gC, 0, none⟩) 784 cC) (soil 784 j) from HVC.out ▸ hfm.cs)
   have q0 : wr.cell? ⟨gC, j * 2, none⟩ = some (.int .u8 0) := HO.out.cell (j := 0) (soil_at (m := 784) (j := j) (by omega)) rfl
   have q1 : wr.cell? ⟨gC, j * 2 + 1, none⟩ = some (.int .u8 0) := HO.out.cell (j := 1) (soil_at (m := 784) (j := j) (by omega)) rfl
   have z0 := HO.out.frozen (j * 2)
   have z1 := HO.out.frozen (j * 2 + 1)
   have HWR := Lib.hid (show wrap64 ((j : Int) + 1) = ((j + 1 : Nat) : Int) by rw [wr64 (by omega) (by omega)]; omega)
   clear hfm hfr
   go_wp2_with fail
   go_roundw
   case rel =>
    have q := FldM.putM HFM.out HVC.out (i := j) (x := (0, 0)) (soil_at (m := 784) (j := j) (by omega)) 3 0
    refine ⟨j + 1, by first | rfl | rw [HWR.out] | (congr 1; omega), by omega, ?_, HFR.out.trans q.2 (fun i hi => .inl ?_)⟩
    ·have e : (soil 784 j).set j (3, 0) = soil 784 (j + 1) := soil_next (m := 784) (by omega)
     rw [← e]
     exact q.1
    ·have hi' : i = gC := hi
     rw [hi', HVC.out]
     rfl
   case measure =>
    simp only [intOf]
    omega
  ·have hje : j = 441 := by omega
   have hjI : ¬ (j : Int) < 441 := by omega
   have hov : Ov { f with cs := soil 784 j } := ⟨HX.out.2.2.2, HX.out.1, HX.out.2.1, HX.out.2.2.1, by rw [hje]; rfl⟩
   have HOV := Lib.hid hov
   obtain ⟨f1, hf1⟩ : ∃ f1 : Fld, { f with cs := soil 784 j } = f1 := ⟨_, rfl⟩
   have HF1 := Lib.hid (show f1.F = f.F ∧ f1.vC = f.vC ∧ f1.vA = .slice none 0 0 ∧ f1.vT = .slice none 0 0 ∧ f1.ak = [] ∧ f1.ts = [] from by rw [← hf1]; exact ⟨rfl, rfl, HMK.out.nil.1, HMK.out.nil.2, HMK.out.ak, HMK.out.ts⟩)
   rw [hf1] at hfm HOV
   have HFM1 := Lib.hid hfm
   have hrt := right_c hfm HOV.out.c
   rw [HF1.out.1] at hrt
   have HRT := Lib.hid hrt
   have HBW := Lib.hid (show Below w.heap.size w wr from HB1.out.trans (hfr.toBelow HB1.out.size (fun i hi => by
    have hi' : f.vC.ownBlock = some i := hi
    rw [HVC.out] at hi'
    have e : gC = i := by simpa [Value.ownBlock] using hi'
    have := HF0.out
    omega)))
   have HCW := Lib.hid (show Blk wr w.heap.size TC [.int .u8 k, .int .u8 l] from hfr.blk HC1.out (fun hk => by
    have hi' : f.vC.ownBlock = some w.heap.size := hk
    rw [HVC.out] at hi'
    have e : gC = w.heap.size := by simpa [Value.ownBlock] using hi'
    have := HF0.out
    omega))
   clear hov hf1 hfm hfr hrt hje HFM HFR HMK
   go_wp2_with fail
   go_at_call 18
   refine HRT.out.mono ?_
   rintro e W2 ⟨v, rfl, ho, hb2⟩
   obtain ⟨A2, c2, rfl, _, _, _⟩ := ho.form rfl
   have HO2 := Lib.hid ho
   have HFM2 := Lib.hid (HFM1.out.below hb2)
   have HB2 := Lib.hid (HBW.out.trans (hb2.mono HBW.out.size))
   have HC2 := Lib.hid (HCW.out.below hb2)
   have b7 : W2.cell? ⟨f.F, 7, none⟩ = some f1.vL := by
    have q := HFM2.out.blk.cell (i := 7) (v := f1.vL) rfl
    rwa [HF1.out.1] at q
   have z7 : W2.frozen? ⟨f.F, 7, none⟩ = false := by
    have q := HFM2.out.blk.frozen 7
    rwa [HF1.out.1] at q
   obtain ⟨vR, hvR⟩ : ∃ vR : Value, .slice A2 (rightL f1).length c2 = vR := ⟨_, rfl⟩
   obtain ⟨f2, hf2⟩ : ∃ f2 : Fld, { f1 with vL := .slice A2 (rightL f1).length c2, ls := rightL f1 } = f2 := ⟨_, rfl⟩
   have hls := HFM2.out.setLs HO2.out
   rw [hf2, HF1.out.1] at hls
   have HLS := Lib.hid hls
   have HF2 := Lib.hid (show f2.F = f.F ∧ f2.vC = .slice (some ⟨gC, 0, none⟩) 784 cC ∧ f2.vA = .slice none 0 0 ∧ f2.vT = .slice none 0 0 ∧ f2.ak = [] ∧ f2.ts = [] ∧ f2.cs = f1.cs ∧ (∀ i, f2.vL.ownBlock = some i → w.heap.size ≤ i) from by
    rw [← hf2]
    refine ⟨HF1.out.1, HF1.out.2.1.trans HVC.out, HF1.out.2.2.1, HF1.out.2.2.2.1, HF1.out.2.2.2.2.1, HF1.out.2.2.2.2.2, rfl, fun i hi => ?_⟩
    have h1 := (HO2.out.ge i hi).1
    have h2 := HBW.out.size
    omega)
   have HOV2 := Lib.hid (show Ov f2 from by rw [← hf2]; exact ⟨HOV.out.lo, HOV.out.x, HOV.out.y, HOV.out.z, HOV.out.cs⟩)
   have HRL2 := Lib.hid (show f2.ls = rightL f2 from by rw [← hf2]; exact (rightL_cs rfl rfl rfl rfl rfl).symm)
   clear ho hb2 hf2 hls hvR
   obtain ⟨i, hi⟩ : ∃ i, 49 * y + 24 = i := ⟨_, rfl⟩
   have HI := Lib.hid hi
   have hi784 : i < 784 := by omega
   have hiI : (i : Int) < 784 := by omega
   have m1 : (49 : Int) * (y : Int) + 24 = (i : Int) := by omega
   obtain ⟨⟨o1, o2⟩, ho⟩ : ∃ o, f2.cs[i]? = some o := ⟨_, List.getElem?_eq_getElem (by rw [HOV2.out.cs, ovC_len]; exact hi784)⟩
   have HOA := Lib.hid ho
   have HW3 := Lib.hid (show FldM (W2.setCell ⟨f.F, 7, none⟩ (.slice A2 (rightL f1).length c2)) f2 from HLS.out)
   have HOC := Lib.hid (show RowG.Own enc2 TC (W2.setCell ⟨f.F, 7, none⟩ (.slice A2 (rightL f1).length c2)) 0 (.slice (some ⟨gC, 0, none⟩) 784 cC) f2.cs from HF2.out.2.1 ▸ HLS.out.cs)
   have k6 : W2.cell? ⟨f.F, 6, none⟩ = some (.slice (some ⟨gC, 0, none⟩) 784 cC) := by
    have q := HFM2.out.blk.cell (i := 6) (v := f1.vC) rfl
    rwa [HF1.out.1, HF1.out.2.1, HVC.out] at q
   have HOC2 := Lib.hid (show RowG.Own enc2 TC W2 0 (.slice (some ⟨gC, 0, none⟩) 784 cC) f2.cs from by
    have q := HFM2.out.cs
    rwa [HF1.out.2.1, HVC.out, ← HF2.out.2.2.2.2.2.2.1] at q)
   have g0 : W2.cell? ⟨gC, i * 2, none⟩ = some (.int .u8 (o1 : Int)) := HOC2.out.cell (j := 0) ho rfl
   have g1 : W2.cell? ⟨gC, i * 2 + 1, none⟩ = some (.int .u8 (o2 : Int)) := HOC2.out.cell (j := 1) ho rfl
   have hfg := HFG.out
   have hgf : gC ≠ f.F := fun e => hfg e.symm
   clear ho hi
   go_wp2_with fail
   clear k6 g0 g1 b7 z7 m1
   refine HeldP.wp_named (S := fun W => Below w.heap.size w W ∧ FldM W f2 ∧ Blk W w.heap.size TC [.int .u8 k, .int .u8 l] ∧ Blk W W2.heap.size TC [.int .u8 o1, .int .u8 o2]) ⟨HB2.out.trans ?_, HW3.out.below (by (repeat' (first | (with_reducible exact Below.refl _ _) | (with_reducible refine Below.setCell ?_ (by (first | omega | (simp; done) | (simp; omega))) _) | (with_reducible refine Below.alloc ?_ (by (first | omega | (simp; done) | (simp; omega))) _) | (with_reducible refine Below.drew ?_) | (with_reducible refine below_drewN ?_ _)))), ?_, by (repeat' (first | (with_reducible refine BlkP.Blk.drew ?_) | (with_reducible refine BlkP.Blk.drewN ?_ _) | (with_reducible refine BlkP.Blk.setAt (us := ?_) (by first | omega | (simp; done) | (simp; omega)) rfl ?_ ?_) | (with_reducible refine BlkP.Blk.otherAt ?_ (by first | omega | (simp; done) | (simp; omega))) | (with_reducible refine BlkP.Blk.newA' (by first | omega | (simp; done) | (simp; omega)) rfl) | (with_reducible refine BlkP.Blk.alloc ?_ _) | (exact rfl)))⟩ ?_
   ·have h2z := HB2.out.size
    have h0z := HF0.out
    have hFw : w.heap.size ≤ f.F := by omega
    (repeat' (first | (with_reducible exact Below.refl _ _) | (with_reducible refine Below.setCell ?_ (by (first | omega | (simp; done) | (simp; omega))) _) | (with_reducible refine Below.alloc ?_ (by (first | omega | (simp; done) | (simp; omega))) _) | (with_reducible refine Below.drew ?_) | (with_reducible refine below_drewN ?_ _)))
   ·have q := HC2.out
    have hne : w.heap.size ≠ f.F := by have := HF0.out; omega
    (repeat' (first | (with_reducible exact q) | (with_reducible refine BlkP.Blk.drew ?_) | (with_reducible refine BlkP.Blk.drewN ?_ _) | (with_reducible refine BlkP.Blk.setAt (us := ?_) (by first | omega | (simp; done) | (simp; omega)) rfl ?_ ?_) | (with_reducible refine BlkP.Blk.otherAt ?_ (by first | omega | (simp; done) | (simp; omega))) | (with_reducible refine BlkP.Blk.newA' (by first | omega | (simp; done) | (simp; omega)) rfl) | (with_reducible refine BlkP.Blk.alloc ?_ _) | (exact rfl)))
   rintro W3 ⟨hb3, hfm3, hc3, ho3⟩
   obtain ⟨ob, hob⟩ : ∃ ob, W2.heap.size = ob := ⟨_, rfl⟩
   rw [hob] at ho3 ⊢
   have HOBN := Lib.hid (show ob ≠ gC ∧ ob ≠ f.F ∧ w.heap.size ≤ ob from by
    have h1 := HFM2.out.blk.lt
    have h2 := (HOC2.out.ge gC rfl).2
    have h3 := HB2.out.size
    rw [HF1.out.1] at h1
    omega)
   have HB3 := Lib.hid hb3
   have HFM3 := Lib.hid hfm3
   have HC3 := Lib.hid hc3
   have HO3 := Lib.hid ho3
   have hcF : W3.cell? ⟨f.F, 6, none⟩ = some (.slice (some ⟨gC, 0, none⟩) 784 cC) := by
    have q := hfm3.blk.cell (i := 6) (v := f2.vC) rfl
    rwa [HF2.out.1, HF2.out.2.1] at q
   have HCF := Lib.hid hcF
   have HOC3 := Lib.hid (show RowG.Own enc2 TC W3 0 (.slice (some ⟨gC, 0, none⟩) 784 cC) f2.cs from HF2.out.2.1 ▸ hfm3.cs)
   have hwg : w.heap.size ≠ gC := by have := HF0.out; omega
   have hog := HOBN.out.1
   clear hb3 hfm3 hc3 ho3 hcF hob HW3 HOC HOC2 HFM2 HC2 HO2 HLS
   refine wp_region_noPanic ?_
   refine wp_region_held_drew (S := fun Xw => Xw.cell? ⟨f.F, 6, none⟩ = some (.slice (some ⟨gC, 0, none⟩) 784 cC) ∧ Blk Xw w.heap.size TC [.int .u8 k, .int .u8 l]) (by kernel_rfl) (⟨HCF.out, HC3.out⟩) (fun hHeld => ?_)
   refine wpAnyH_take (i := 0) (oi := ⟨some 43, _, _, _, _, _⟩) (v := .pointer (some ⟨f.F, 0, none⟩)) rfl (by kernel_rfl) (by kernel_rfl) (by kernel_rfl) (fun _ _ _ h => h) (Or.inl ⟨by rfl, fun Xw hSW => by go_simp⟩) hHeld ?_
   simp only [Act.put, List.setIfInBounds_toArray, List.set_cons_zero, List.set_cons_succ]
   refine wpAnyH_take (i := 1) (oi := ⟨some 44, _, _, _, _, _⟩) (v := .pointer (some ⟨f.F, 0, none⟩)) rfl (by kernel_rfl) (by kernel_rfl) (by kernel_rfl) (fun _ _ _ h => h) (Or.inl ⟨by rfl, fun Xw hSW => by go_simp⟩) hHeld ?_
   simp only [Act.put, List.setIfInBounds_toArray, List.set_cons_zero, List.set_cons_succ]
   refine wpAnyH_take (i := 2) (oi := ⟨some 45, _, _, _, _, _⟩) (v := .pointer (some ⟨f.F, 3, none⟩)) rfl (by kernel_rfl) (by kernel_rfl) (by kernel_rfl) (fun _ _ _ h => h) (Or.inl ⟨by rfl, fun Xw hSW => by go_simp⟩) hHeld ?_
   simp only [Act.put, List.setIfInBounds_toArray, List.set_cons_zero, List.set_cons_succ]
   refine wpAnyH_take (i := 3) (oi := ⟨some 46, _, _, _, _, _⟩) (v := .pointer (some ⟨f.F, 6, none⟩)) rfl (by kernel_rfl) (by kernel_rfl) (by kernel_rfl) (fun _ _ _ h => h) (Or.inl ⟨by rfl, fun Xw hSW => by go_simp⟩) hHeld ?_
   simp only [Act.put, List.setIfInBounds_toArray, List.set_cons_zero, List.set_cons_succ]
   refine wpAnyH_take (i := 4) (oi := ⟨some 47, _, _, _, _, _⟩) (v := .slice (some ⟨gC, 0, none⟩) 784 cC) rfl (by kernel_rfl) (by kernel_rfl) (by kernel_rfl) (fun _ _ _ h => h) (Or.inl ⟨by rfl, fun Xw hSW => by have q := hSW.1; go_simp⟩) hHeld ?_
   simp only [Act.put, List.setIfInBounds_toArray, List.set_cons_zero, List.set_cons_succ]
   refine wpAnyH_take (i := 5) (oi := ⟨some 48, _, _, _, _, _⟩) (v := .int .i64 (i : Int)) rfl (by kernel_rfl) (by kernel_rfl) (by kernel_rfl) (fun _ _ _ h => h) (Or.inl ⟨by rfl, fun Xw hSW => by go_simp⟩) hHeld ?_
   simp only [Act.put, List.setIfInBounds_toArray, List.set_cons_zero, List.set_cons_succ]
   refine wpAnyH_take (i := 6) (oi := ⟨some 49, _, _, _, _, _⟩) (v := .agg #[.int .u8 k, .int .u8 l]) rfl (by kernel_rfl) (by kernel_rfl) (by kernel_rfl) (fun _ _ _ h => h) (Or.inl ⟨by rfl, fun Xw hSW => by have a0 := hSW.2.cell (i := 0) rfl; have a1 := hSW.2.cell (i := 1) rfl; go_simp⟩) hHeld ?_
   simp only [Act.put, List.setIfInBounds_toArray, List.set_cons_zero, List.set_cons_succ]
   refine wpAnyH_take (i := 7) (oi := ⟨some 50, _, _, _, _, _⟩) (v := .pointer (some ⟨gC, i * 2, none⟩)) rfl (by kernel_rfl) (by kernel_rfl) (by kernel_rfl) (fun _ _ _ h => h) (Or.inl ⟨by rfl, fun Xw hSW => by go_simp⟩) hHeld ?_
   simp only [Act.put, List.setIfInBounds_toArray, List.set_cons_zero, List.set_cons_succ]
   refine wpAnyH_ready (rs := [8]) (by kernel_rfl) (by simp) ?_
   refine AllReadyH.cons (o := ⟨none, _, _, _, _, _⟩) rfl (fun K hK => ?_) AllReadyH.nil
   have g0 : W3.cell? ⟨gC, i * 2, none⟩ = some (.int .u8 (o1 : Int)) := HOC3.out.cell (j := 0) HOA.out rfl
   have g1 : W3.cell? ⟨gC, i * 2 + 1, none⟩ = some (.int .u8 (o2 : Int)) := HOC3.out.cell (j := 1) HOA.out rfl
   have z0 := HOC3.out.frozen (i * 2)
   have z1 := HOC3.out.frozen (i * 2 + 1)
   go_simp
   refine hK.out _ _ (⟨by have q := HCF.out; (repeat' (first | (with_reducible assumption) | (with_reducible refine HeldP.c_drew ?_) | (with_reducible refine HeldP.c_drewN ?_) | (with_reducible refine HeldP.c_same (by omega) ?_) | (with_reducible refine HeldP.c_other ?_ ?_) | (with_reducible refine HeldP.c_new (by first | omega | (simp; done) | (simp; omega)) ?_) | (with_reducible refine HeldP.c_alloc ?_ ?_) | (with_reducible refine HeldP.e_drew ?_) | (with_reducible refine HeldP.e_drewN ?_) | (with_reducible refine HeldP.e_set ?_) | (with_reducible refine HeldP.e_new (by first | omega | (simp; done) | (simp; omega)) ⟨_, rfl⟩) | (with_reducible refine HeldP.e_alloc ?_ ?_) | (with_reducible refine HeldP.f_drew ?_) | (with_reducible refine HeldP.f_drewN ?_) | (with_reducible refine HeldP.f_set ?_) | (with_reducible refine HeldP.f_new (by first | omega | (simp; done) | (simp; omega))) | (with_reducible refine HeldP.f_alloc ?_ ?_) | (with_reducible refine HeldP.s_drew ?_) | (with_reducible refine HeldP.s_drewN ?_) | (with_reducible refine HeldP.s_set ?_) | (with_reducible refine HeldP.s_new (by first | omega | (simp; done) | (simp; omega))) | (with_reducible refine HeldP.s_alloc ?_) | (with_reducible exact ⟨_, by assumption⟩) | omega | (intro e; simp at e; done) | (intro e; simp at e; omega) | (exact rfl) | (simp; done) | (simp; omega))), by have q := HC3.out; (repeat' (first | (with_reducible exact q) | (with_reducible refine BlkP.Blk.drew ?_) | (with_reducible refine BlkP.Blk.drewN ?_ _) | (with_reducible refine BlkP.Blk.setAt (us := ?_) (by first | omega | (simp; done) | (simp; omega)) rfl ?_ ?_) | (with_reducible refine BlkP.Blk.otherAt ?_ (by first | omega | (simp; done) | (simp; omega))) | (with_reducible refine BlkP.Blk.newA' (by first | omega | (simp; done) | (simp; omega)) rfl) | (with_reducible refine BlkP.Blk.alloc ?_ _) | (exact rfl)))⟩) (fun hHeld => ?_)
   clear hK K
   refine wpAnyH_done (by kernel_rfl) ?_ _
   refine NoPanic.normal ?_
   clear hHeld
   have hput := FldM.putM HFM3.out HF2.out.2.1 HOA.out k l
   refine HeldP.then_named (S := fun W => Below w.heap.size w W ∧ FldM W (f2.put i (k, l)) ∧ Blk W ob TC [.int .u8 o1, .int .u8 o2]) ⟨HB3.out.trans ?_, hput.1.below (by (repeat' (first | (with_reducible exact Below.refl _ _) | (with_reducible refine Below.setCell ?_ (by (first | omega | (simp; done) | (simp; omega))) _) | (with_reducible refine Below.alloc ?_ (by (first | omega | (simp; done) | (simp; omega))) _) | (with_reducible refine Below.drew ?_) | (with_reducible refine below_drewN ?_ _)))), ?_⟩ ?_
   ·have h1 := HF0.out
    have h2 : w.heap.size ≤ gC := by omega
    (repeat' (first | (with_reducible exact Below.refl _ _) | (with_reducible refine Below.setCell ?_ (by (first | omega | (simp; done) | (simp; omega))) _) | (with_reducible refine Below.alloc ?_ (by (first | omega | (simp; done) | (simp; omega))) _) | (with_reducible refine Below.drew ?_) | (with_reducible refine below_drewN ?_ _)))
   ·have q := HO3.out
    (repeat' (first | (with_reducible exact q) | (with_reducible refine BlkP.Blk.drew ?_) | (with_reducible refine BlkP.Blk.drewN ?_ _) | (with_reducible refine BlkP.Blk.setAt (us := ?_) (by first | omega | (simp; done) | (simp; omega)) rfl ?_ ?_) | (with_reducible refine BlkP.Blk.otherAt ?_ (by first | omega | (simp; done) | (simp; omega))) | (with_reducible refine BlkP.Blk.newA' (by first | omega | (simp; done) | (simp; omega)) rfl) | (with_reducible refine BlkP.Blk.alloc ?_ _) | (exact rfl)))
   rintro W4 ⟨hb4, hfm4, ho4⟩
   clear hput
   obtain ⟨f3, hf3⟩ : ∃ f3, f2.put i (k, l) = f3 := ⟨_, rfl⟩
   have hpl := HOV2.out.plcx hy
   rw [HI.out] at hpl
   have HOLD := Lib.hid (hf3 ▸ old_put HOV2.out.c HRL2.out hpl.1 HOA.out hk)
   have HF3 := Lib.hid (show f3.F = f.F ∧ (f3.vA = .slice none 0 0 ∧ f3.vT = .slice none 0 0) ∧ f3.ak = [] ∧ f3.ts = [] ∧ plc f3 i = plc f2 i ∧ f3.vL = f2.vL from by
    rw [← hf3]
    exact ⟨HF2.out.1, ⟨HF2.out.2.2.1, HF2.out.2.2.2.1⟩, HF2.out.2.2.2.2.1, HF2.out.2.2.2.2.2.1, rfl, rfl⟩)
   have HC4F := Lib.hid (show FldC f3 from hf3 ▸ put_c HOV2.out.c hk)
   have HI3 := Lib.hid (show i < f3.X * f3.Y * f3.Z from hf3 ▸ hpl.1)
   rw [hf3] at hfm4
   have HFE := Lib.hid hf3
   have HB4 := Lib.hid hb4
   have HFM4 := Lib.hid hfm4
   have HO4 := Lib.hid ho4
   clear hb4 hfm4 ho4 hf3 hpl HFM3 HC3 HO3 HCF HOC3
   go_wp2_with fail
   refine wp_region_noPanic ?_
   refine wp_region_held_drew (S := fun Xw => Blk Xw ob TC [.int .u8 o1, .int .u8 o2]) (by kernel_rfl) (HO4.out) (fun hHeld => ?_)
   refine wpAnyH_take (i := 0) (oi := ⟨some 51, _, _, _, _, _⟩) (v := .pointer (some ⟨f.F, 0, none⟩)) rfl (by kernel_rfl) (by kernel_rfl) (by kernel_rfl) (fun _ _ _ h => h) (Or.inl ⟨by rfl, fun Xw hSW => by go_simp⟩) hHeld ?_
   simp only [Act.put, List.setIfInBounds_toArray, List.set_cons_zero, List.set_cons_succ]
   refine wpAnyH_take (i := 1) (oi := ⟨some 52, _, _, _, _, _⟩) (v := (.iface 29 (.pointer (some ⟨f.F, 0, none⟩)))) rfl (by kernel_rfl) (by kernel_rfl) (by kernel_rfl) (fun _ _ _ h => h) (Or.inl ⟨by rfl, fun Xw hSW => by go_simp⟩) hHeld ?_
   simp only [Act.put, List.setIfInBounds_toArray, List.set_cons_zero, List.set_cons_succ]
   refine wpAnyH_take (i := 2) (oi := ⟨some 53, _, _, _, _, _⟩) (v := .pointer (some ⟨f.F, 0, none⟩)) rfl (by kernel_rfl) (by kernel_rfl) (by kernel_rfl) (fun _ _ _ h => h) (Or.inl ⟨by rfl, fun Xw hSW => by go_simp⟩) hHeld ?_
   simp only [Act.put, List.setIfInBounds_toArray, List.set_cons_zero, List.set_cons_succ]
   refine wpAnyH_take (i := 3) (oi := ⟨some 54, _, _, _, _, _⟩) (v := .int .i64 (i : Int)) rfl (by kernel_rfl) (by kernel_rfl) (by kernel_rfl) (fun _ _ _ h => h) (Or.inl ⟨by rfl, fun Xw hSW => by go_simp⟩) hHeld ?_
   simp only [Act.put, List.setIfInBounds_toArray, List.set_cons_zero, List.set_cons_succ]
   refine wpAnyH_take (i := 5) (oi := ⟨some 56, _, _, _, _, _⟩) (v := .agg #[.int .u8 o1, .int .u8 o2]) rfl (by kernel_rfl) (by kernel_rfl) (by kernel_rfl) (fun _ _ _ h => h) (Or.inl ⟨by rfl, fun Xw hSW => by have a0 := hSW.cell (i := 0) rfl; have a1 := hSW.cell (i := 1) rfl; go_simp⟩) hHeld ?_
   simp only [Act.put, List.setIfInBounds_toArray, List.set_cons_zero, List.set_cons_succ]
   refine wpAnyH_ready (rs := [4]) (by kernel_rfl) (by simp) ?_
   refine AllReadyH.cons (o := ⟨some 55, _, _, _, _, _⟩) rfl (fun K hK => ?_) AllReadyH.nil
   go_simp
   have hat := at_c (HFM4.out.below (Below.refl _ _).drew) HC4F.out HI3.out
   rw [HF3.out.1] at hat
   refine hat.mono ?_
   rintro e W5 ⟨rfl, hb5⟩
   have HB5 := Lib.hid ((show Below W4.heap.size W4 W4.drew by (repeat' (first | (with_reducible exact Below.refl _ _) | (with_reducible refine Below.setCell ?_ (by (first | omega | (simp; done) | (simp; omega))) _) | (with_reducible refine Below.alloc ?_ (by (first | omega | (simp; done) | (simp; omega))) _) | (with_reducible refine Below.drew ?_) | (with_reducible refine below_drewN ?_ _)))).trans hb5)
   clear hat hb5
   try go_wp2_with fail
   refine hK.out _ _ (HO4.out.below HB5.out) (fun hHeld => ?_)
   clear hK K
   refine wpAnyH_ready (rs := [6]) (by kernel_rfl) (by simp) ?_
   refine AllReadyH.cons (o := ⟨some 57, _, _, _, _, _⟩) rfl (fun K hK => ?_) AllReadyH.nil
   go_simp
   have hchg := change_c (HFM4.out.below HB5.out) HOLD.out (HT.out.below (HB4.out.trans (HB5.out.mono HB4.out.size))) (by rw [HF3.out.2.2.1]; decide) (by rw [HF3.out.2.2.2.1]; decide) (fun hs => by
    rcases hs with e | e | e | e
    ·rw [HF3.out.1] at e
     have := HF0.out
     omega
    ·rw [HF3.out.2.1.1] at e
     cases e
    ·rw [HF3.out.2.1.2] at e
     cases e
    ·rw [HF3.out.2.2.2.2.2] at e
     have := HF2.out.2.2.2.2.2.2.2 _ e
     omega)
   rw [HF3.out.1, ← HF3.out.2.2.2.2.1] at hchg
   refine hchg.mono ?_
   clear hchg
   rintro e W6 ⟨T, f4, rfl, hch⟩
   have HCH := Lib.hid hch
   have HB6 := Lib.hid (show Below w.heap.size w W6 from (HB4.out.trans (HB5.out.mono HB4.out.size)).trans (hch.fr.toBelow (Nat.le_trans HB4.out.size HB5.out.size) (fun i hs => by
    rcases hs with e | e | e | e
    ·rw [HF3.out.1] at e
     have := HF0.out
     omega
    ·rw [HF3.out.2.1.1] at e
     cases e
    ·rw [HF3.out.2.1.2] at e
     cases e
    ·rw [HF3.out.2.2.2.2.2] at e
     exact HF2.out.2.2.2.2.2.2.2 _ e)))
   have HO6 := Lib.hid (show Blk W6 ob TC [.int .u8 o1, .int .u8 o2] from hch.fr.blk (HO4.out.below HB5.out) (fun hs => by
    rcases hs with e | e | e | e
    ·rw [HF3.out.1] at e
     exact HOBN.out.2.1 e
    ·rw [HF3.out.2.1.1] at e
     cases e
    ·rw [HF3.out.2.1.2] at e
     cases e
    ·obtain ⟨us, hu⟩ := own_cells (HFM4.out.below HB5.out).ls e
     exact Blk.ne (HO4.out.below HB5.out) hu (by decide) rfl))
   clear hch
   try go_wp2_with fail
   refine hK.out _ _ (HO6.out) (fun hHeld => ?_)
   clear hK K
   refine wpAnyH_take (i := 7) (oi := ⟨some 10, _, _, _, _, _⟩) (v := .int .i64 (T.length : Nat)) rfl (by kernel_rfl) (by kernel_rfl) (by kernel_rfl) (fun _ _ _ h => h) (Or.inl ⟨by rfl, fun Xw hSW => by go_simp⟩) hHeld ?_
   simp only [Act.put, List.setIfInBounds_toArray, List.set_cons_zero, List.set_cons_succ]
   refine wpAnyH_done (by kernel_rfl) ?_ _
   refine NoPanic.normal ?_
   clear hHeld
   refine HeldP.then_named (S := fun W => Below W6.heap.size W6 W) (by (repeat' (first | (with_reducible exact Below.refl _ _) | (with_reducible refine Below.setCell ?_ (by (first | omega | (simp; done) | (simp; omega))) _) | (with_reducible refine Below.alloc ?_ (by (first | omega | (simp; done) | (simp; omega))) _) | (with_reducible refine Below.drew ?_) | (with_reducible refine below_drewN ?_ _)))) ?_
   rintro W7 hb7
   have HFM7 := Lib.hid (HCH.out.fld.below hb7)
   have HB7 := Lib.hid (show Below w.heap.size w W7 from HB6.out.trans (hb7.mono HB6.out.size))
   obtain ⟨vA4, vT4, l4, ef4, _, _⟩ := HCH.out.f_
   have HF4 := Lib.hid (show f4.F = f.F ∧ f4.ls = rightL f3 ∧ f4.X = f3.X ∧ f4.Y = f3.Y ∧ f4.Z = f3.Z ∧ f4.lo = f3.lo from by
    rw [ef4]
    exact ⟨HF3.out.1, rfl, rfl, rfl, rfl, rfl⟩)
   have HCO := Lib.hid (show ∀ j, j < 16 → ∃ a b, (colL f3)[j]? = some (a, b) ∧ f4.ls[49 * j + 24]? = some (a, b) from fun j hj => by
    have hp := HOV2.out.plcx hj
    have e3 : plc f3 (49 * j + 24) = (3, 48 + (j : Int), 3) := by rw [← HFE.out]; exact hp.2
    have h3 : 49 * j + 24 < f3.X * f3.Y * f3.Z := by rw [← HFE.out]; exact hp.1
    refine ⟨litV f3 (rightL f3) false (3, 48 + (j : Int), 3), litV f3 (rightL f3) true (3, 48 + (j : Int), 3), ?_, ?_⟩
    ·unfold colL
     rw [List.getElem?_map, List.getElem?_range hj]
     rfl
    ·rw [HF4.out.2.1, right_get2 HC4F.out h3, e3])
   have HLL := Lib.hid (show (colL f3).length = 16 from by simp [colL])
   have HL4 := Lib.hid (show f4.ls.length = 784 from by
    have h1 := HOV2.out.x
    have h2 := HOV2.out.y
    have h3 := HOV2.out.z
    rw [HF4.out.2.1, rightL_len, ← HFE.out]
    show f2.X * f2.Y * f2.Z = 784
    rw [h1, h2, h3])
   obtain ⟨AL, cL, hvL, _, _, hAL⟩ := HFM7.out.ls.form HL4.out
   obtain ⟨gL, rfl, _, hgL⟩ := hAL (by omega)
   have HVL := Lib.hid hvL
   clear hb7 ef4 hvL hAL
   go_wp2_with fail
   go_loopw [11, 12] (fun v11 v12 wr => ∃ j : Nat, v12 = .int .i64 (j : Nat) ∧ j ≤ 16 ∧ RowG.Own enc2 TL wr W7.heap.size v11 ((colL f3).take j) ∧ Below W7.heap.size W7 wr) (fun _ v _ => 16 - (intOf v).toNat)
   case atStart => exact ⟨0, rfl, by omega, Own.nil _ _ _ _, Below.refl _ _⟩
   case round =>
    obtain ⟨j2, rfl, hj2, hrow, hbe⟩ := hrel
    have HROW := Lib.hid hrow
    have HBE := Lib.hid hbe
    by_cases hjl : j2 < 16
    ·have hjlI : (j2 : Int) < 16 := by omega
     obtain ⟨a, b, hca, hla⟩ := HCO.out j2 hjl
     have HCA := Lib.hid hca
     obtain ⟨ln, hln⟩ : ∃ ln, ((colL f3).take j2).length = ln := ⟨_, rfl⟩
     have HLN := Lib.hid hln
     have HLNE := Lib.hid (show ln ≤ 16 by rw [← hln, List.length_take, HLL.out]; omega)
     obtain ⟨A9, c9, hv9, _, _, _⟩ := hrow.form hln
     subst hv9
     have hfm := HFM7.out.below hbe
     have k7 : wr.cell? ⟨f.F, 7, none⟩ = some (.slice (some ⟨gL, 0, none⟩) 784 cL) := by
      have q := hfm.blk.cell (i := 7) (v := f4.vL) rfl
      rwa [HF4.out.1, HVL.out] at q
     have hol : RowG.Own enc2 TL wr 0 (.slice (some ⟨gL, 0, none⟩) 784 cL) f4.ls := HVL.out ▸ hfm.ls
     obtain ⟨t, ht⟩ : ∃ t, 49 * j2 + 24 = t := ⟨_, rfl⟩
     rw [ht] at hla
     have n1 : (49 : Int) * (j2 : Int) + 24 = (t : Int) := by omega
     have htI : (t : Int) < 784 := by omega
     have htN : t < 784 := by omega
     have l0 : wr.cell? ⟨gL, t * 2, none⟩ = some (.int .u8 (a : Int)) := hol.cell (j := 0) hla rfl
     have l1 : wr.cell? ⟨gL, t * 2 + 1, none⟩ = some (.int .u8 (b : Int)) := hol.cell (j := 1) hla rfl
     have HWR := Lib.hid (show wrap64 ((j2 : Int) + 1) = ((j2 + 1 : Nat) : Int) by rw [wr64 (by omega) (by omega)]; omega)
     clear hca hla hln hfm hol ht hrow hbe
     go_wp2_with ((with_reducible refine at_slot 73 ?_); refine Classical.byContradiction (fun hG => ?_))
     refine hG ?_
     clear hG
     refine wp_pushLt (w0 := wr) (y := (a, b)) (v := .slice A9 ln c9) (l := (colL f3).take j2) rfl (.tmp 62) (.tmp 72) rfl rfl rfl rfl HROW.out rfl HLN.out (by have := HLNE.out; omega) HBE.out.size ?_
     intro g5 c5 W8 hpu
     have HPU := Lib.hid hpu
     clear hpu
     go_wp2_with fail
     go_roundw
     case rel =>
      refine ⟨j2 + 1, by first | rfl | rw [HWR.out] | (congr 1; omega), by omega, ?_, HBE.out.trans ((Below.refl _ _).grown HPU.out.2.1 HBE.out.size (fun k hk => (HROW.out.ge k hk).1))⟩
      rw [List.take_add_one, HCA.out]
      exact HPU.out.1
     case measure =>
      simp only [intOf]
      omega
    ·have hje2 : j2 = 16 := by omega
     have hjlI : ¬ (j2 : Int) < 16 := by omega
     obtain ⟨A9, c9, hv9, _, _, _⟩ := hrow.form (n := 16) (by rw [List.length_take, HLL.out, hje2]; rfl)
     subst hv9
     clear hrow hbe
     have HJ := Lib.hid hje2
     clear hje2
     go_wp2_with fail
     go_ret2
     refine ⟨f2, T, .slice A9 16 c9, rfl, HOV2.out, HRL2.out, HCH.out.dup, fun q => ?_, ?_, HB7.out.trans (HBE.out.mono HB7.out.size)⟩
     ·rw [HI.out, HFE.out]
      exact HCH.out.mem q
     ·rw [HI.out, HFE.out]
      have q := HROW.out
      rw [HJ.out, List.take_of_length_le (by rw [HLL.out]; exact Nat.le_refl _)] at q
      exact q.mono HB7.out.size
end FloodW
end Go.Proofs.YtpimkdaikoclnaaDoor
namespace Go.Proofs.YtpimkdaikoclnaaDoor
open Go.RowKit
set_option linter.unusedVariables false
set_option linter.unusedSimpArgs false
namespace FloodW
open BlkP RowG GlowW FloodP
abbrev mid (y : Nat) : V := (3, 48 + (y : Int), 3)
theorem new_iff {f : Fld} (hls : f.ls = rightL f) (i : Nat) (c : Nat × Nat) (q : V) : newL (f.put i c) q ↔ inB f q = true ∧ (litV (f.put i c) (rightL (f.put i c)) false q ≠ litV f (rightL f) false q ∨ litV (f.put i c) (rightL (f.put i c)) true q ≠ litV f (rightL f) true q) := by
 have hw : ∀ b, wasB (f.put i c) b q = litV f (rightL f) b q := fun b => by
  rw [← litV_was]
  show litV (f.put i c) f.ls b q = _
  rw [hls, litV_cs (f := f) (f' := f.put i c) rfl rfl rfl rfl]
 unfold newL
 rw [hw, hw]
 exact Iff.rfl
section
variable {f : Fld}
theorem Ov.sky0 (h : Ov f) (q : V) : litV f (rightL f) false q = if inB f q = true ∧ 57 ≤ q.2.1 then 15 else 0 := by
 have h1 := h.full (y := 12) (c := (0, 0)) (by decide) (by decide) (.inr (by decide)) (fun e => absurd e (by decide)) q
 have e : f.put (49 * 12 + 24) (0, 0) = f := h.self (y := 12) (by decide)
 have h2 := h.clrx (y := 12) (by decide) (0, 0) q
 rw [e] at h1 h2
 rw [h1]
 have h3 : clr f q = true ↔ inB f q = true ∧ 57 ≤ q.2.1 := by
  rw [h2]
  constructor
  ·rintro ⟨a, b⟩
   refine ⟨a, ?_⟩
   split at b
   ·rename_i e
    rw [e]
    simp only
    omega
   ·exact b
  ·rintro ⟨a, b⟩
   refine ⟨a, ?_⟩
   split
   ·decide
   ·exact b
 by_cases hc : clr f q = true
 ·rw [if_pos hc, if_pos (h3.1 hc)]
 ·rw [if_neg hc, if_neg (fun d => hc (h3.2 d))]
theorem Ov.dark (h : Ov f) {y : Nat} {c : Nat × Nat} (hy : y < 16) (hc8 : c.1 < 256 ∧ c.2 < 256) (hc : lampA c = 0) (q : V) : litV (f.put (49 * y + 24) c) (rightL (f.put (49 * y + 24) c)) true q = 0 := by
 have e : (fun _ => 0) = litV (f.put (49 * y + 24) c) (rightL (f.put (49 * y + 24) c)) true := right_uniqC (put_c h.c hc8) (fun _ => Nat.zero_le _) (sol_none fun q => by
  show lmN (f.put (49 * y + 24) c) q = 0
  rw [h.lamp hy]
  split
  ·exact hc
  ·rfl)
 rw [← e]
theorem Ov.lamp0 (h : Ov f) (q : V) : litV f (rightL f) true q = 0 := by
 have h1 := h.dark (y := 12) (c := (0, 0)) (by decide) (by decide) (by decide) q
 rwa [show f.put (49 * 12 + 24) (0, 0) = f from h.self (y := 12) (by decide)] at h1
theorem Ov.skyT (h : Ov f) {y : Nat} {c : Nat × Nat} (hy : y < 16) (hy9 : 9 ≤ y) (hc8 : c.1 < 256 ∧ c.2 < 256) (hc : openA c = true) (q : V) : litV (f.put (49 * y + 24) c) (rightL (f.put (49 * y + 24) c)) false q = litV f (rightL f) false q := by
 rw [h.full hy hc8 (.inr hc) (fun e => by omega), h.sky0]
 have h3 : clr (f.put (49 * y + 24) c) q = true ↔ inB f q = true ∧ 57 ≤ q.2.1 := by
  rw [h.clrx hy]
  constructor
  ·rintro ⟨a, b⟩
   refine ⟨a, ?_⟩
   split at b
   ·rename_i e
    rw [e]
    simp only
    omega
   ·exact b
  ·rintro ⟨a, b⟩
   refine ⟨a, ?_⟩
   split
   ·exact hc
   ·exact b
 by_cases hq : inB f q = true ∧ 57 ≤ q.2.1
 ·rw [if_pos hq, if_pos (h3.2 hq)]
 ·rw [if_neg hq, if_neg (fun d => hq (h3.1 d))]
theorem Ov.skyS_ (h : Ov f) {y : Nat} {c : Nat × Nat} (hy : y < 9) (hc8 : c.1 < 256 ∧ c.2 < 256) (hc : openA c = false) (q : V) : litV (f.put (49 * y + 24) c) (rightL (f.put (49 * y + 24) c)) false q = litV f (rightL f) false q := by
 rw [h.full (by omega) hc8 (.inl hy) (fun _ => hc), h.sky0]
 have h3 : clr (f.put (49 * y + 24) c) q = true ↔ inB f q = true ∧ 57 ≤ q.2.1 := by
  rw [h.clrx (by omega)]
  constructor
  ·rintro ⟨a, b⟩
   refine ⟨a, ?_⟩
   split at b
   ·rw [hc] at b
    cases b
   ·exact b
  ·rintro ⟨a, b⟩
   refine ⟨a, ?_⟩
   rw [if_neg (fun e => by
    have : q.2.1 = 48 + (y : Int) := congrArg (fun p : V => p.2.1) e
    omega)]
   exact b
 by_cases hq : inB f q = true ∧ 57 ≤ q.2.1
 ·rw [if_pos hq, if_pos (h3.2 hq)]
 ·rw [if_neg hq, if_neg (fun d => hq (h3.1 d))]
theorem Ov.in_mid (h : Ov f) {y : Nat} (hy : y < 16) : inB f (mid y) = true := h.inBx.2 (by simp only; omega)
def six : List V := [(4, 60, 3), (2, 60, 3), (3, 60, 4), (3, 60, 2), (3, 61, 3), (3, 59, 3)]
theorem six_adj (q : V) : q ∈ six ↔ adj (mid 12) q := by
 unfold six adj mid
 simp only [List.mem_cons, List.not_mem_nil, or_false, Prod.ext_iff]
 omega
theorem Ov.torch1 (h : Ov f) (q : V) : litV (f.put (49 * 12 + 24) (11, 1)) (rightL (f.put (49 * 12 + 24) (11, 1))) true q = if q = mid 12 then 1 else 0 := by
 have e : (fun q => if q = mid 12 then 1 else 0) = litV (f.put (49 * 12 + 24) (11, 1)) (rightL (f.put (49 * 12 + 24) (11, 1))) true := right_uniqC (put_c h.c (by decide)) (fun q => by split <;> omega) (fun q => by
  show (if q = mid 12 then 1 else 0) = _
  have hin : inV sidesV (fun q => if q = mid 12 then 1 else 0) q ≤ 0 := inV_le.2 fun s _ => by split <;> omega
  have hl : nowS (f.put (49 * 12 + 24) (11, 1)) true q = if q = mid 12 then 1 else 0 := by
   show lmN (f.put (49 * 12 + 24) (11, 1)) q = _
   rw [h.lamp (y := 12) (by decide)]
   rfl
  rw [hl]
  by_cases hq : q = mid 12
  ·rw [if_pos hq, if_pos ((h.clrx (y := 12) (by decide) (11, 1) q).2 ⟨by rw [hq]; exact h.in_mid (y := 12) (by decide), by rw [if_pos hq]; decide⟩)]
   omega
  ·rw [if_neg hq]
   split <;> omega)
 rw [← e]
theorem Ov.torch2 (h : Ov f) (q : V) : litV (f.put (49 * 12 + 24) (11, 2)) (rightL (f.put (49 * 12 + 24) (11, 2))) true q = if q = mid 12 then 2 else if q ∈ six then 1 else 0 := by
 have e : (fun q => if q = mid 12 then 2 else if q ∈ six then 1 else 0) = litV (f.put (49 * 12 + 24) (11, 2)) (rightL (f.put (49 * 12 + 24) (11, 2))) true := right_uniqC (put_c h.c (by decide)) (fun q => by split; omega; split <;> omega) (fun q => by
  show (if q = mid 12 then 2 else if q ∈ six then 1 else 0) = _
  have hl : nowS (f.put (49 * 12 + 24) (11, 2)) true q = if q = mid 12 then 2 else 0 := by
   show lmN (f.put (49 * 12 + 24) (11, 2)) q = _
   rw [h.lamp (y := 12) (by decide)]
   rfl
  have hmid : mid 12 ∉ six := fun hm => by
   have := (six_adj _).1 hm
   unfold adj at this
   omega
  rw [hl]
  by_cases hq : q = mid 12
  ·have hin : inV sidesV (fun q => if q = mid 12 then 2 else if q ∈ six then 1 else 0) q ≤ 1 := inV_le.2 fun s _ => by split; omega; split <;> omega
   rw [if_pos hq, if_pos ((h.clrx (y := 12) (by decide) (11, 2) q).2 ⟨by rw [hq]; exact h.in_mid (y := 12) (by decide), by rw [if_pos hq]; decide⟩), if_pos hq]
   omega
  ·rw [if_neg hq, if_neg hq]
   by_cases h6 : q ∈ six
   ·have hadj := (six_adj q).1 h6
    have hb : inB f q = true := h.inBx.2 (by unfold adj mid at hadj; simp only at hadj; omega)
    have hp : mayP q := in_may (h.c.w) hb
    have hpm : mayP (mid 12) := in_may (h.c.w) (h.in_mid (y := 12) (by decide))
    have hin1 : inV sidesV (fun q => if q = mid 12 then 2 else if q ∈ six then 1 else 0) q ≤ 1 := inV_le.2 fun s _ => by split; omega; split <;> omega
    have hin2 := inV_ge (L := fun q => if q = mid 12 then 2 else if q ∈ six then 1 else 0) (mem_sidesV.2 ⟨hp, hpm, adj_sym hadj⟩ : mid 12 ∈ sidesV q)
    simp only [if_true] at hin2
    rw [if_pos h6, if_pos ((h.clrx (y := 12) (by decide) (11, 2) q).2 ⟨hb, by
     rw [if_neg hq]
     unfold adj mid at hadj
     simp only at hadj
     omega⟩)]
    omega
   ·rw [if_neg h6]
    have hin : inV sidesV (fun q => if q = mid 12 then 2 else if q ∈ six then 1 else 0) q ≤ 0 := inV_le.2 fun s hs => by
     have hne : s ≠ mid 12 := fun e => h6 ((six_adj q).2 (by
      have := (mem_sidesV.1 hs).2.2
      rw [e] at this
      exact adj_sym this))
     rw [if_neg hne]
     split <;> omega
    split <;> omega)
 rw [← e]
theorem Ov.stone (h : Ov f) {y : Nat} (hy : y < 16) (hy9 : 9 ≤ y) (q : V) : litV (f.put (49 * y + 24) (2, 0)) (rightL (f.put (49 * y + 24) (2, 0))) false q = if clr (f.put (49 * y + 24) (2, 0)) q = true then (if q.1 = 3 ∧ q.2.2 = 3 ∧ q.2.1 < 48 + (y : Int) then 14 else 15) else 0 := by
 have e : (fun q : V => if clr (f.put (49 * y + 24) (2, 0)) q = true then (if q.1 = 3 ∧ q.2.2 = 3 ∧ q.2.1 < 48 + (y : Int) then 14 else 15) else 0) = litV (f.put (49 * y + 24) (2, 0)) (rightL (f.put (49 * y + 24) (2, 0))) false := right_uniqC (put_c h.c (by decide)) (fun q => by split; split <;> omega; omega) (fun q => by
  show (if clr (f.put (49 * y + 24) (2, 0)) q = true then (if q.1 = 3 ∧ q.2.2 = 3 ∧ q.2.1 < 48 + (y : Int) then 14 else 15) else 0) = _
  have hin : inV sidesV (fun q : V => if clr (f.put (49 * y + 24) (2, 0)) q = true then (if q.1 = 3 ∧ q.2.2 = 3 ∧ q.2.1 < 48 + (y : Int) then 14 else 15) else 0) q ≤ 14 := inV_le.2 fun s _ => by split; split <;> omega; omega
  by_cases hc : clr (f.put (49 * y + 24) (2, 0)) q = true
  ·rw [if_pos hc, if_pos hc]
   have hb := (h.clrx hy (2, 0) q).1 hc
   have hbi := h.inBx.1 hb.1
   have hne : q ≠ mid y := fun e => by
    have := hb.2
    rw [if_pos e] at this
    exact absurd this (by decide)
   have h57 : 57 ≤ q.2.1 := by
    have := hb.2
    rwa [if_neg hne] at this
   by_cases hcol : q.1 = 3 ∧ q.2.2 = 3 ∧ q.2.1 < 48 + (y : Int)
   ·rw [if_pos hcol]
    have hs0 : nowS (f.put (49 * y + 24) (2, 0)) false q = 0 := by
     show skyS (clr (f.put (49 * y + 24) (2, 0))) q = 0
     refine skyS_zero (k := (48 + (y : Int) - q.2.1).toNat) (by omega) (by omega) ?_
     have eu : upV q (48 + (y : Int) - q.2.1).toNat = mid y := Prod.ext hcol.1 (Prod.ext (by simp only [upV]; omega) hcol.2.1)
     rw [eu]
     cases hm : clr (f.put (49 * y + 24) (2, 0)) (mid y) with
     | false => rfl
     | true =>
      have := ((h.clrx hy (2, 0) (mid y)).1 hm).2
      rw [if_pos rfl] at this
      exact absurd this (by decide)
    have hsb : inB f (2, q.2.1, 3) = true := h.inBx.2 (by simp only; omega)
    have hsc : clr (f.put (49 * y + 24) (2, 0)) (2, q.2.1, 3) = true := (h.clrx hy (2, 0) _).2 ⟨hsb, by
     rw [if_neg (fun e => by
      have : (2 : Int) = 3 := congrArg (fun p : V => p.1) e
      omega)]
     exact h57⟩
    have hside : (2, q.2.1, 3) ∈ sidesV q := mem_sidesV.2 ⟨in_may h.c.w hb.1, in_may h.c.w hsb, .inl ⟨.inr (by simp only; omega), rfl, by simp only; omega⟩⟩
    have hge := inV_ge (L := fun q : V => if clr (f.put (49 * y + 24) (2, 0)) q = true then (if q.1 = 3 ∧ q.2.2 = 3 ∧ q.2.1 < 48 + (y : Int) then 14 else 15) else 0) hside
    simp only at hge
    rw [if_pos hsc, if_neg (by omega)] at hge
    rw [hs0]
    omega
   ·rw [if_neg hcol]
    have hs15 : nowS (f.put (49 * y + 24) (2, 0)) false q = 15 := by
     show skyS (clr (f.put (49 * y + 24) (2, 0))) q = 15
     refine (skyS_iff (by omega)).2 ⟨hc, fun k hk => (h.clrx hy (2, 0) _).2 ⟨h.inBx.2 (by simp only [upV]; omega), ?_⟩⟩
     rw [if_neg (fun e => by
      have e1 : q.1 = 3 := congrArg (fun p : V => p.1) e
      have e2 : q.2.1 + (k : Int) = 48 + (y : Int) := congrArg (fun p : V => p.2.1) e
      have e3 : q.2.2 = 3 := congrArg (fun p : V => p.2.2) e
      by_cases k0 : k = 0
      ·exact hne (Prod.ext e1 (Prod.ext (by simp only; omega) e3))
      ·exact hcol ⟨e1, e3, by omega⟩)]
     simp only [upV]
     omega
    rw [hs15]
    omega
  ·rw [if_neg hc, if_neg hc])
 rw [← e]
theorem Ov.dig (h : Ov f) (q : V) : litV (f.put (49 * 8 + 24) (0, 0)) (rightL (f.put (49 * 8 + 24) (0, 0))) false q = if inB f q = true ∧ (57 ≤ q.2.1 ∨ q = mid 8) then 15 else 0 := by
 rw [h.full (y := 8) (by decide) (by decide) (.inl (by decide)) (fun e => absurd e (by decide))]
 have h3 : clr (f.put (49 * 8 + 24) (0, 0)) q = true ↔ inB f q = true ∧ (57 ≤ q.2.1 ∨ q = mid 8) := by
  rw [h.clrx (y := 8) (by decide)]
  constructor
  ·rintro ⟨a, b⟩
   refine ⟨a, ?_⟩
   split at b
   ·rename_i e
    exact .inr e
   ·exact .inl b
  ·rintro ⟨a, b⟩
   refine ⟨a, ?_⟩
   split
   ·decide
   ·rename_i hne
    rcases b with b | b
    ·exact b
    ·exact absurd b hne
 by_cases hq : inB f q = true ∧ (57 ≤ q.2.1 ∨ q = mid 8)
 ·rw [if_pos hq, if_pos (h3.2 hq)]
 ·rw [if_neg hq, if_neg (fun d => hq (h3.1 d))]
variable {T : List V}
theorem Ov.n_torch1 (h : Ov f) (hls : f.ls = rightL f) (hd : T.Nodup) (hT : ∀ q, q ∈ T ↔ newL (f.put (49 * 12 + 24) (11, 1)) q) : T.length = 1 := by
 refine cntL (E := [mid 12]) hd (List.nodup_cons.2 ⟨by simp, List.nodup_nil⟩) (fun q => ?_)
 rw [hT, new_iff hls, h.skyT (y := 12) (by decide) (by decide) (by decide) (by decide), h.torch1, h.lamp0]
 constructor
 ·rintro ⟨_, h1 | h1⟩
  ·exact absurd rfl h1
  ·split at h1
   ·rename_i e
    rw [e]
    simp
   ·exact absurd rfl h1
 ·intro hq
  have e : q = mid 12 := by simpa using hq
  refine ⟨by rw [e]; exact h.in_mid (y := 12) (by decide), .inr ?_⟩
  rw [if_pos e]
  decide
theorem Ov.n_torch2 (h : Ov f) (hls : f.ls = rightL f) (hd : T.Nodup) (hT : ∀ q, q ∈ T ↔ newL (f.put (49 * 12 + 24) (11, 2)) q) : T.length = 7 := by
 refine cntL (E := mid 12 :: six) hd (by decide) (fun q => ?_)
 rw [hT, new_iff hls, h.skyT (y := 12) (by decide) (by decide) (by decide) (by decide), h.torch2, h.lamp0]
 constructor
 ·rintro ⟨_, h1 | h1⟩
  ·exact absurd rfl h1
  ·split at h1
   ·rename_i e
    rw [e]
    exact List.mem_cons_self
   ·split at h1
    ·rename_i h6
     exact List.mem_cons_of_mem _ h6
    ·exact absurd rfl h1
 ·intro hq
  have hb : inB f q = true := by
   rcases List.mem_cons.1 hq with e | h6
   ·rw [e]
    exact h.in_mid (y := 12) (by decide)
   ·have hadj := (six_adj q).1 h6
    exact h.inBx.2 (by unfold adj mid at hadj; simp only at hadj; omega)
  refine ⟨hb, .inr ?_⟩
  rcases List.mem_cons.1 hq with e | h6
  ·rw [if_pos e]
   decide
  ·split
   ·decide
   ·decide
theorem Ov.n_glass (h : Ov f) (hls : f.ls = rightL f) (hd : T.Nodup) (hT : ∀ q, q ∈ T ↔ newL (f.put (49 * 12 + 24) (9, 0)) q) : T.length = 0 := by
 refine cntL (E := []) hd List.nodup_nil (fun q => ?_)
 rw [hT, new_iff hls, h.skyT (y := 12) (by decide) (by decide) (by decide) (by decide), h.dark (y := 12) (by decide) (by decide) (by decide), h.lamp0]
 simp
theorem Ov.n_under (h : Ov f) (hls : f.ls = rightL f) (hd : T.Nodup) (hT : ∀ q, q ∈ T ↔ newL (f.put (49 * 3 + 24) (2, 0)) q) : T.length = 0 := by
 refine cntL (E := []) hd List.nodup_nil (fun q => ?_)
 rw [hT, new_iff hls, h.skyS_ (y := 3) (by decide) (by decide) (by decide), h.dark (y := 3) (by decide) (by decide) (by decide), h.lamp0]
 simp
theorem Ov.n_dig (h : Ov f) (hls : f.ls = rightL f) (hd : T.Nodup) (hT : ∀ q, q ∈ T ↔ newL (f.put (49 * 8 + 24) (0, 0)) q) : T.length = 1 := by
 refine cntL (E := [mid 8]) hd (List.nodup_cons.2 ⟨by simp, List.nodup_nil⟩) (fun q => ?_)
 rw [hT, new_iff hls, h.dig, h.sky0, h.dark (y := 8) (by decide) (by decide) (by decide), h.lamp0]
 constructor
 ·rintro ⟨hb, h1 | h1⟩
  ·by_cases e : q = mid 8
   ·rw [e]
    simp
   ·exfalso
    apply h1
    by_cases hy : 57 ≤ q.2.1
    ·rw [if_pos ⟨hb, .inl hy⟩, if_pos ⟨hb, hy⟩]
    ·rw [if_neg (fun d => by
      rcases d.2 with d | d
      ·exact hy d
      ·exact e d), if_neg (fun d => hy d.2)]
  ·exact absurd rfl h1
 ·intro hq
  have e : q = mid 8 := by simpa using hq
  have hb : inB f q = true := by rw [e]; exact h.in_mid (y := 8) (by decide)
  refine ⟨hb, .inl ?_⟩
  rw [if_pos ⟨hb, .inr e⟩, if_neg (fun d => by
   have := d.2
   rw [e] at this
   simp only at this
   omega)]
  decide
theorem Ov.n_stone (h : Ov f) (hls : f.ls = rightL f) {y : Nat} (hy : y < 16) (hy9 : 9 ≤ y) (hd : T.Nodup) (hT : ∀ q, q ∈ T ↔ newL (f.put (49 * y + 24) (2, 0)) q) : T.length = y - 8 := by
 have hE : ((List.range (y - 8)).map fun k : Nat => ((3, 57 + (k : Int), 3) : V)).length = y - 8 := by simp
 rw [← hE]
 refine cntL hd (List.pairwise_map.2 (List.nodup_range.imp fun {a b} hne e => hne (by
  have : (57 : Int) + (a : Int) = 57 + (b : Int) := congrArg (fun p : V => p.2.1) e
  omega))) (fun q => ?_)
 ·rw [hT, new_iff hls, h.stone hy hy9, h.sky0, h.dark hy (by decide) (by decide), h.lamp0]
  have hcl := h.clrx hy (2, 0) q
  constructor
  ·rintro ⟨hb, h1 | h1⟩
   ·have hbi := h.inBx.1 hb
    rw [List.mem_map]
    by_cases hm : q = mid y
    ·exact ⟨y - 9, List.mem_range.2 (by omega), by rw [hm]; exact Prod.ext rfl (Prod.ext (by simp only; omega) rfl)⟩
    ·rw [if_neg hm] at hcl
     by_cases h57 : 57 ≤ q.2.1
     ·by_cases hcol : q.1 = 3 ∧ q.2.2 = 3 ∧ q.2.1 < 48 + (y : Int)
      ·exact ⟨(q.2.1 - 57).toNat, List.mem_range.2 (by omega), Prod.ext hcol.1.symm (Prod.ext (by simp only; omega) hcol.2.1.symm)⟩
      ·rw [if_pos (hcl.2 ⟨hb, h57⟩), if_neg hcol, if_pos ⟨hb, h57⟩] at h1
       exact absurd rfl h1
     ·rw [if_neg (fun d => h57 (hcl.1 d).2), if_neg (fun d => h57 d.2)] at h1
      exact absurd rfl h1
   ·exact absurd rfl h1
  ·intro hq
   obtain ⟨k, hk, e⟩ := List.mem_map.1 hq
   have hk := List.mem_range.1 hk
   subst e
   have hb : inB f (3, 57 + (k : Int), 3) = true := h.inBx.2 (by simp only; omega)
   refine ⟨hb, .inl ?_⟩
   rw [if_pos (show inB f (3, 57 + (k : Int), 3) = true ∧ 57 ≤ ((3, 57 + (k : Int), 3) : V).2.1 from ⟨hb, by simp only; omega⟩)]
   split
   ·rename_i hc
    have h2 := (hcl.1 hc).2
    have hne : ¬ ((3, 57 + (k : Int), 3) : V) = mid y := fun e => by
     rw [if_pos e] at h2
     exact absurd h2 (by decide)
    rw [if_pos ⟨rfl, rfl, by
     simp only
     apply Classical.byContradiction
     intro hn
     exact hne (Prod.ext rfl (Prod.ext (by simp only; omega) rfl))⟩]
    decide
   ·decide
end
end FloodW
end Go.Proofs.YtpimkdaikoclnaaDoor
namespace Go.Proofs.YtpimkdaikoclnaaDoor
open Go.RowKit
set_option linter.unusedVariables false
set_option linter.unusedSimpArgs false
namespace FloodW
open BlkP RowG GlowW FloodP
theorem col_at {g : Fld} {j a b : Nat} (hj : j < 16) (ha : litV g (rightL g) false (mid j) = a) (hb : litV g (rightL g) true (mid j) = b) : (colL g)[j]? = some (a, b) := by
 unfold colL
 rw [List.getElem?_map, List.getElem?_range hj, ← ha, ← hb]
 rfl
section
variable {f : Fld}
theorem Ov.c_torch2 (h : Ov f) : (colL (f.put (49 * 12 + 24) (11, 2)))[12]? = some (15, 2) ∧ (colL (f.put (49 * 12 + 24) (11, 2)))[13]? = some (15, 1) := by
 refine ⟨col_at (by decide) ?_ ?_, col_at (by decide) ?_ ?_⟩
 ·rw [h.skyT (y := 12) (by decide) (by decide) (by decide) (by decide), h.sky0, if_pos ⟨h.in_mid (y := 12) (by decide), by decide⟩]
 ·rw [h.torch2, if_pos rfl]
 ·rw [h.skyT (y := 12) (by decide) (by decide) (by decide) (by decide), h.sky0, if_pos ⟨h.in_mid (y := 13) (by decide), by decide⟩]
 ·rw [h.torch2, if_neg (by decide), if_pos (by decide)]
theorem Ov.c_torch1 (h : Ov f) : (colL (f.put (49 * 12 + 24) (11, 1)))[12]? = some (15, 1) := by
 refine col_at (by decide) ?_ ?_
 ·rw [h.skyT (y := 12) (by decide) (by decide) (by decide) (by decide), h.sky0, if_pos ⟨h.in_mid (y := 12) (by decide), by decide⟩]
 ·rw [h.torch1, if_pos rfl]
theorem Ov.c_dig (h : Ov f) : (colL (f.put (49 * 8 + 24) (0, 0)))[8]? = some (15, 0) := by
 refine col_at (by decide) ?_ ?_
 ·rw [h.dig, if_pos ⟨h.in_mid (y := 8) (by decide), .inr rfl⟩]
 ·exact h.dark (y := 8) (by decide) (by decide) (by decide) _
theorem Ov.c_stone (h : Ov f) : (colL (f.put (49 * 12 + 24) (2, 0)))[12]? = some (0, 0) ∧ (colL (f.put (49 * 12 + 24) (2, 0)))[11]? = some (14, 0) ∧ (colL (f.put (49 * 12 + 24) (2, 0)))[9]? = some (14, 0) := by
 have hd : ∀ q, litV (f.put (49 * 12 + 24) (2, 0)) (rightL (f.put (49 * 12 + 24) (2, 0))) true q = 0 := h.dark (y := 12) (by decide) (by decide) (by decide)
 refine ⟨col_at (by decide) ?_ (hd _), col_at (by decide) ?_ (hd _), col_at (by decide) ?_ (hd _)⟩
 ·rw [h.stone (y := 12) (by decide) (by decide), if_neg (fun hc => by
   have := ((h.clrx (y := 12) (by decide) (2, 0) (mid 12)).1 hc).2
   rw [if_pos rfl] at this
   exact absurd this (by decide))]
 ·rw [h.stone (y := 12) (by decide) (by decide), if_pos ((h.clrx (y := 12) (by decide) (2, 0) (mid 11)).2 ⟨h.in_mid (y := 11) (by decide), by rw [if_neg (by decide)]; decide⟩), if_pos ⟨rfl, rfl, by decide⟩]
 ·rw [h.stone (y := 12) (by decide) (by decide), if_pos ((h.clrx (y := 12) (by decide) (2, 0) (mid 9)).2 ⟨h.in_mid (y := 9) (by decide), by rw [if_neg (by decide)]; decide⟩), if_pos ⟨rfl, rfl, by decide⟩]
end
theorem over_at {w : World} {y k l : Nat} {e : Ending} {w' : World} (h : OverP w y (k, l) e w') : ∃ (f : Fld) (T : List V) (g c : Nat), e = .returned (.tuple #[.int .i64 (T.length : Nat), .slice (some ⟨g, 0, none⟩) 16 c]) ∧ Ov f ∧ f.ls = rightL f ∧ T.Nodup ∧ (∀ q : V, q ∈ T ↔ newL (f.put (49 * y + 24) (k, l)) q) ∧ RowG.Own enc2 TL w' w.heap.size (.slice (some ⟨g, 0, none⟩) 16 c) (colL (f.put (49 * y + 24) (k, l))) ∧ Below w.heap.size w w' := by
 obtain ⟨f, T, v, h1, h2, h3, h4, h5, h6, h7⟩ := h
 obtain ⟨A, c, rfl, _, _, hA⟩ := h6.form (n := 16) (by simp [colL])
 obtain ⟨g, rfl, _, _⟩ := hA (by omega)
 exact ⟨f, T, g, c, h1, h2, h3, h4, h5, h6, h7⟩
set_option maxRecDepth 100000 in
set_option maxHeartbeats 16000000 in
theorem awake_c {w : World} (hT : KindW.Tab w) : Calls Tryd.prog 6 #[] w fun e w' => e = .returned (.bool true) ∧ Below w.heap.size w w' := by
 have HT := Lib.hid hT
 clear hT
 go_enter Tryd.func6, Tryd.ntmps6
 go_wp2_with fail
 go_at_call 9
 refine (over_c (w := w) (y := 12) (k := 11) (l := 2) HT.out (by decide) (by decide)).mono ?_
 intro e w1 ho1
 obtain ⟨f1, T1, g1, c1, rfl, hv1, hl1, hd1, hm1, hr1, hb1⟩ := over_at ho1
 have hn1 := hv1.n_torch2 hl1 hd1 hm1
 rw [hn1]
 have HV1 := Lib.hid hv1
 have HR1 := Lib.hid hr1
 have HB1 := Lib.hid hb1
 clear ho1 hv1 hl1 hd1 hm1 hr1 hb1 hn1
 go_wp2_with fail
 go_at_call 9
 refine (over_c (w := w1) (y := 12) (k := 2) (l := 0) (HT.out.below HB1.out) (by decide) (by decide)).mono ?_
 intro e w2 ho2
 obtain ⟨f2, T2, g2, c2, rfl, hv2, hl2, hd2, hm2, hr2, hb2⟩ := over_at ho2
 have hn2 := hv2.n_stone hl2 (y := 12) (by decide) (by decide) hd2 hm2
 rw [hn2]
 have hr1 := HR1.out.below hb2
 have a0 : w2.cell? ⟨g1, 24, none⟩ = some (.int .u8 15) := hr1.cell (i := 12) (j := 0) HV1.out.c_torch2.1 rfl
 have a1 : w2.cell? ⟨g1, 25, none⟩ = some (.int .u8 2) := hr1.cell (i := 12) (j := 1) HV1.out.c_torch2.1 rfl
 have a2 : w2.cell? ⟨g1, 26, none⟩ = some (.int .u8 15) := hr1.cell (i := 13) (j := 0) HV1.out.c_torch2.2 rfl
 have a3 : w2.cell? ⟨g1, 27, none⟩ = some (.int .u8 1) := hr1.cell (i := 13) (j := 1) HV1.out.c_torch2.2 rfl
 have d0 : w2.cell? ⟨g2, 24, none⟩ = some (.int .u8 0) := hr2.cell (i := 12) (j := 0) hv2.c_stone.1 rfl
 have d1 : w2.cell? ⟨g2, 25, none⟩ = some (.int .u8 0) := hr2.cell (i := 12) (j := 1) hv2.c_stone.1 rfl
 have d2 : w2.cell? ⟨g2, 22, none⟩ = some (.int .u8 14) := hr2.cell (i := 11) (j := 0) hv2.c_stone.2.1 rfl
 have d3 : w2.cell? ⟨g2, 23, none⟩ = some (.int .u8 0) := hr2.cell (i := 11) (j := 1) hv2.c_stone.2.1 rfl
 have d4 : w2.cell? ⟨g2, 18, none⟩ = some (.int .u8 14) := hr2.cell (i := 9) (j := 0) hv2.c_stone.2.2 rfl
 have d5 : w2.cell? ⟨g2, 19, none⟩ = some (.int .u8 0) := hr2.cell (i := 9) (j := 1) hv2.c_stone.2.2 rfl
 have HB2 := Lib.hid (HB1.out.trans (hb2.mono HB1.out.size))
 clear ho2 hv2 hl2 hd2 hm2 hr2 hb2 hn2 hr1
 go_wp2_with fail
 go_ret
 exact ⟨rfl, HB2.out⟩
end FloodW
end Go.Proofs.YtpimkdaikoclnaaDoor
namespace Go.Proofs.YtpimkdaikoclnaaDoor
open Go.RowKit
set_option linter.unusedVariables false
set_option linter.unusedSimpArgs false
namespace FloodW
open BlkP RowG GlowW FloodP
set_option maxRecDepth 100000 in
set_option maxHeartbeats 16000000 in
theorem change_nil_c {w : World} {p : V} {o1 o2 : Nat} : Calls Tryd.prog 11 #[Value.nilIface, .agg #[.int .i64 p.1, .int .i64 p.2.1, .int .i64 p.2.2], .agg #[.int .u8 o1, .int .u8 o2]] w fun e w' => e = .returned (.int .i64 0) ∧ Below w.heap.size w w' := by
 go_enter_defers Tryd.func11, Tryd.ntmps11
 go_wp2_with fail
 exact ⟨_, results_tmp rfl _ _ _, rfl, by (repeat' (first | (with_reducible exact Below.refl _ _) | (with_reducible refine Below.setCell ?_ (by (first | omega | (simp; done) | (simp; omega))) _) | (with_reducible refine Below.alloc ?_ (by (first | omega | (simp; done) | (simp; omega))) _) | (with_reducible refine Below.drew ?_) | (with_reducible refine below_drewN ?_ _)))⟩
set_option maxRecDepth 100000 in
set_option maxHeartbeats 16000000 in
theorem change_off_c {w : World} {p : V} {o1 o2 F : Nat} (hp : PlaceW.mayB p.1 p.2.1 p.2.2 = false) : Calls Tryd.prog 11 #[.iface 29 (.pointer (some ⟨F, 0, none⟩)), .agg #[.int .i64 p.1, .int .i64 p.2.1, .int .i64 p.2.2], .agg #[.int .u8 o1, .int .u8 o2]] w fun e w' => e = .returned (.int .i64 0) ∧ Below w.heap.size w w' := by
 have HP := Lib.hid hp
 clear hp
 go_enter_defers Tryd.func11, Tryd.ntmps11
 go_wp2_with fail
 go_at_call 24
 refine calls_named (S := fun W => Below w.heap.size w W) (by (repeat' (first | (with_reducible exact Below.refl _ _) | (with_reducible refine Below.setCell ?_ (by (first | omega | (simp; done) | (simp; omega))) _) | (with_reducible refine Below.alloc ?_ (by (first | omega | (simp; done) | (simp; omega))) _) | (with_reducible refine Below.drew ?_) | (with_reducible refine below_drewN ?_ _)))) ?_
 rintro W1 hb1
 refine (PlaceW.may_b HP.out _).mono ?_
 rintro e W2 ⟨rfl, hb2⟩
 have HB2 := Lib.hid (hb1.trans (hb2.mono hb1.size))
 clear hb1 hb2
 go_wp2_with fail
 exact ⟨_, results_tmp rfl _ _ _, rfl, HB2.out⟩
set_option maxRecDepth 100000 in
set_option maxHeartbeats 16000000 in
theorem law_known {w : World} (hT : KindW.Tab w) : Calls Tryd.prog 4 #[] w fun e w' => e = .returned (.bool true) ∧ Below w.heap.size w w' := by
 have HT := Lib.hid hT
 clear hT
 go_enter Tryd.func4, Tryd.ntmps4
 go_wp2_with fail
 go_at_call 9
 refine (over_c (w := w) (y := 12) (k := 11) (l := 1) HT.out (by decide) (by decide)).mono ?_
 intro e w1 ho1
 obtain ⟨f1, T1, g1, c1, rfl, hv1, hl1, hd1, hm1, hr1, hb1⟩ := over_at ho1
 have hn1 := hv1.n_torch1 hl1 hd1 hm1
 rw [hn1]
 have HV1 := Lib.hid hv1
 have HR1 := Lib.hid hr1
 have HB1 := Lib.hid hb1
 clear ho1 hv1 hl1 hd1 hm1 hr1 hb1 hn1
 go_wp2_with fail
 go_at_call 9
 refine (over_c (w := w1) (y := 12) (k := 9) (l := 0) (HT.out.below HB1.out) (by decide) (by decide)).mono ?_
 intro e w2 ho2
 obtain ⟨f2, T2, g2, c2, rfl, hv2, hl2, hd2, hm2, hr2, hb2⟩ := over_at ho2
 have hn2 := hv2.n_glass hl2 hd2 hm2
 rw [hn2]
 have HB2 := Lib.hid (HB1.out.trans (hb2.mono HB1.out.size))
 have HR1 := Lib.hid (HR1.out.below hb2)
 clear ho2 hv2 hl2 hd2 hm2 hr2 hb2 hn2
 go_wp2_with fail
 go_at_call 9
 refine (over_c (w := w2) (y := 13) (k := 2) (l := 0) (HT.out.below HB2.out) (by decide) (by decide)).mono ?_
 intro e w3 ho3
 obtain ⟨f3, T3, g3, c3, rfl, hv3, hl3, hd3, hm3, hr3, hb3⟩ := over_at ho3
 have hn3 := hv3.n_stone hl3 (y := 13) (by decide) (by decide) hd3 hm3
 rw [hn3]
 have HR1 := Lib.hid (HR1.out.below (hb3.mono (by have := HB2.out.size; have := HB1.out.size; omega)))
 have HB3 := Lib.hid (HB2.out.trans (hb3.mono HB2.out.size))
 clear ho3 hv3 hl3 hd3 hm3 hr3 hb3 hn3
 go_wp2_with fail
 go_at_call 9
 refine (over_c (w := w3) (y := 8) (k := 0) (l := 0) (HT.out.below HB3.out) (by decide) (by decide)).mono ?_
 intro e w4 ho4
 obtain ⟨f4, T4, g4, c4, rfl, hv4, hl4, hd4, hm4, hr4, hb4⟩ := over_at ho4
 have hn4 := hv4.n_dig hl4 hd4 hm4
 rw [hn4]
 have HV4 := Lib.hid hv4
 have HR4 := Lib.hid hr4
 have HR1 := Lib.hid (HR1.out.below hb4)
 have HB4 := Lib.hid (HB3.out.trans (hb4.mono HB3.out.size))
 clear ho4 hv4 hl4 hd4 hm4 hr4 hb4 hn4
 go_wp2_with fail
 go_at_call 9
 refine (over_c (w := w4) (y := 3) (k := 2) (l := 0) (HT.out.below HB4.out) (by decide) (by decide)).mono ?_
 intro e w5 ho5
 obtain ⟨f5, T5, g5, c5, rfl, hv5, hl5, hd5, hm5, hr5, hb5⟩ := over_at ho5
 have hn5 := hv5.n_under hl5 hd5 hm5
 rw [hn5]
 have HR1 := Lib.hid (HR1.out.below hb5)
 have HR4 := Lib.hid (HR4.out.below hb5)
 have HB5 := Lib.hid (HB4.out.trans (hb5.mono HB4.out.size))
 clear ho5 hv5 hl5 hd5 hm5 hr5 hb5 hn5
 go_wp2_with fail
 go_at_call 10
 refine (made_c (w := w5) (p := (0, 0, 0)) (x := 0) (y := 0) (z := 0) (cl := []) (Rd.nil _ _) rfl (fun c hc => (by cases hc))).mono ?_
 rintro e w6 ⟨f, rfl, hmk⟩
 have HMK := Lib.hid hmk
 have HR1 := Lib.hid (HR1.out.below hmk.bel)
 have HR4 := Lib.hid (HR4.out.below hmk.bel)
 have HB6 := Lib.hid (HB5.out.trans (hmk.bel.mono HB5.out.size))
 clear hmk
 go_wp2_with fail
 go_at_call 11
 refine (change_nil_c (p := (0, 0, 0)) (o1 := 0) (o2 := 0)).mono ?_
 rintro e w7 ⟨rfl, hb7⟩
 have HF7 := Lib.hid (HMK.out.fld.below hb7)
 have HR1 := Lib.hid (HR1.out.below hb7)
 have HR4 := Lib.hid (HR4.out.below hb7)
 have HB7 := Lib.hid (HB6.out.trans (hb7.mono HB6.out.size))
 clear hb7
 go_wp2_with fail
 go_at_call 11
 refine (change_off_c (p := (0, 64, 0)) (o1 := 2) (o2 := 0) (F := f.F) (by decide)).mono ?_
 rintro e w8 ⟨rfl, hb8⟩
 have HF8 := Lib.hid (HF7.out.below hb8)
 have HR1 := Lib.hid (HR1.out.below hb8)
 have HR4 := Lib.hid (HR4.out.below hb8)
 have HB8 := Lib.hid (HB7.out.trans (hb8.mono HB7.out.size))
 have HC1 := Lib.hid HV1.out.c_torch1
 have HC4 := Lib.hid HV4.out.c_dig
 have HNL := Lib.hid HMK.out.nil
 have HOT := Lib.hid HMK.out.other
 have HTX := Lib.hid (HT.out.below HB8.out)
 clear hb8 HF7 HV1 HV4 HMK
 go_wp2_with fail
 refine wp_region_noPanic ?_
 refine wp_region_held_drew (S := fun Xw => RowG.Own enc2 TL Xw w.heap.size (.slice (some ⟨g1, 0, none⟩) 16 c1) (colL (f1.put (49 * 12 + 24) (11, 1))) ∧ RowG.Own enc2 TL Xw w3.heap.size (.slice (some ⟨g4, 0, none⟩) 16 c4) (colL (f4.put (49 * 8 + 24) (0, 0))) ∧ FldM Xw f) (by kernel_rfl) (⟨HR1.out.drew, HR4.out.drew, HF8.out.below (Below.refl _ _).drew⟩) (fun hHeld => ?_)
 refine wpAnyH_ready (rs := [0]) (by kernel_rfl) (by simp) ?_
 refine AllReadyH.cons (o := ⟨some 49, _, _, _, _, _⟩) rfl (fun K hK => ?_) AllReadyH.nil
 go_simp
 refine (awake_c (HTX.out.below (Below.refl _ _).drew)).mono ?_
 rintro e w9 ⟨rfl, hb9⟩
 have HB9 := Lib.hid ((show Below w8.heap.size w8 w8.drew by (repeat' (first | (with_reducible exact Below.refl _ _) | (with_reducible refine Below.setCell ?_ (by (first | omega | (simp; done) | (simp; omega))) _) | (with_reducible refine Below.alloc ?_ (by (first | omega | (simp; done) | (simp; omega))) _) | (with_reducible refine Below.drew ?_) | (with_reducible refine below_drewN ?_ _)))).trans hb9)
 clear hb9
 try go_wp2_with fail
 refine hK.out _ _ (⟨HR1.out.below HB9.out, HR4.out.below HB9.out, HF8.out.below HB9.out⟩) (fun hHeld => ?_)
 clear hK K
 refine wpAnyH_take (i := 1) (oi := ⟨some 50, _, _, _, _, _⟩) (v := .bool true) rfl (by kernel_rfl) (by kernel_rfl) (by kernel_rfl) (fun _ _ _ h => h) (Or.inl ⟨by rfl, fun Xw hSW => by go_simp⟩) hHeld ?_
 simp only [Act.put, List.setIfInBounds_toArray, List.set_cons_zero, List.set_cons_succ]
 refine wpAnyH_take (i := 2) (oi := ⟨some 51, _, _, _, _, _⟩) (v := .int .i64 1) rfl (by kernel_rfl) (by kernel_rfl) (by kernel_rfl) (fun _ _ _ h => h) (Or.inl ⟨by rfl, fun Xw hSW => by go_simp⟩) hHeld ?_
 simp only [Act.put, List.setIfInBounds_toArray, List.set_cons_zero, List.set_cons_succ]
 refine wpAnyH_take (i := 3) (oi := ⟨some 52, _, _, _, _, _⟩) (v := .bool true) rfl (by kernel_rfl) (by kernel_rfl) (by kernel_rfl) (fun _ _ _ h => h) (Or.inl ⟨by rfl, fun Xw hSW => by go_simp⟩) hHeld ?_
 simp only [Act.put, List.setIfInBounds_toArray, List.set_cons_zero, List.set_cons_succ]
 refine wpAnyH_take (i := 4) (oi := ⟨some 53, _, _, _, _, _⟩) (v := .bool true) rfl (by kernel_rfl) (by kernel_rfl) (by kernel_rfl) (fun _ _ _ h => h) (Or.inl ⟨by rfl, fun Xw hSW => by go_simp⟩) hHeld ?_
 simp only [Act.put, List.setIfInBounds_toArray, List.set_cons_zero, List.set_cons_succ]
 refine wpAnyH_take (i := 5) (oi := ⟨some 54, _, _, _, _, _⟩) (v := .bool true) rfl (by kernel_rfl) (by kernel_rfl) (by kernel_rfl) (fun _ _ _ h => h) (Or.inl ⟨by rfl, fun Xw hSW => by go_simp⟩) hHeld ?_
 simp only [Act.put, List.setIfInBounds_toArray, List.set_cons_zero, List.set_cons_succ]
 refine wpAnyH_take (i := 6) (oi := ⟨some 55, _, _, _, _, _⟩) (v := .slice (some ⟨g1, 0, none⟩) 16 c1) rfl (by kernel_rfl) (by kernel_rfl) (by kernel_rfl) (fun _ _ _ h => h) (Or.inl ⟨by rfl, fun Xw hSW => by go_simp⟩) hHeld ?_
 simp only [Act.put, List.setIfInBounds_toArray, List.set_cons_zero, List.set_cons_succ]
 refine wpAnyH_take (i := 7) (oi := ⟨some 56, _, _, _, _, _⟩) (v := .pointer (some ⟨g1, 24, none⟩)) rfl (by kernel_rfl) (by kernel_rfl) (by kernel_rfl) (fun _ _ _ h => h) (Or.inl ⟨by rfl, fun Xw hSW => by go_simp⟩) hHeld ?_
 simp only [Act.put, List.setIfInBounds_toArray, List.set_cons_zero, List.set_cons_succ]
 refine wpAnyH_take (i := 8) (oi := ⟨some 57, _, _, _, _, _⟩) (v := .agg #[.int .u8 15, .int .u8 1]) rfl (by kernel_rfl) (by kernel_rfl) (by kernel_rfl) (fun _ _ _ h => h) (Or.inl ⟨by rfl, fun Xw hSW => by have a0 : Xw.cell? ⟨g1, 24, none⟩ = some (.int .u8 15) := hSW.1.cell (i := 12) (j := 0) HC1.out rfl; have a1 : Xw.cell? ⟨g1, 25, none⟩ = some (.int .u8 1) := hSW.1.cell (i := 12) (j := 1) HC1.out rfl; go_simp⟩) hHeld ?_
 simp only [Act.put, List.setIfInBounds_toArray, List.set_cons_zero, List.set_cons_succ]
 refine wpAnyH_take (i := 9) (oi := ⟨some 58, _, _, _, _, _⟩) (v := .agg #[.int .u8 15, .int .u8 1]) rfl (by kernel_rfl) (by kernel_rfl) (by kernel_rfl) (fun _ _ _ h => h) (Or.inl ⟨by rfl, fun Xw hSW => by go_simp⟩) hHeld ?_
 simp only [Act.put, List.setIfInBounds_toArray, List.set_cons_zero, List.set_cons_succ]
 refine wpAnyH_take (i := 10) (oi := ⟨some 59, _, _, _, _, _⟩) (v := .bool true) rfl (by kernel_rfl) (by kernel_rfl) (by kernel_rfl) (fun _ _ _ h => h) (Or.inl ⟨by rfl, fun Xw hSW => by go_simp⟩) hHeld ?_
 simp only [Act.put, List.setIfInBounds_toArray, List.set_cons_zero, List.set_cons_succ]
 refine wpAnyH_take (i := 11) (oi := ⟨some 60, _, _, _, _, _⟩) (v := .bool true) rfl (by kernel_rfl) (by kernel_rfl) (by kernel_rfl) (fun _ _ _ h => h) (Or.inl ⟨by rfl, fun Xw hSW => by go_simp⟩) hHeld ?_
 simp only [Act.put, List.setIfInBounds_toArray, List.set_cons_zero, List.set_cons_succ]
 refine wpAnyH_take (i := 12) (oi := ⟨some 61, _, _, _, _, _⟩) (v := .bool true) rfl (by kernel_rfl) (by kernel_rfl) (by kernel_rfl) (fun _ _ _ h => h) (Or.inl ⟨by rfl, fun Xw hSW => by go_simp⟩) hHeld ?_
 simp only [Act.put, List.setIfInBounds_toArray, List.set_cons_zero, List.set_cons_succ]
 refine wpAnyH_take (i := 13) (oi := ⟨some 62, _, _, _, _, _⟩) (v := .int .i64 0) rfl (by kernel_rfl) (by kernel_rfl) (by kernel_rfl) (fun _ _ _ h => h) (Or.inl ⟨by rfl, fun Xw hSW => by go_simp⟩) hHeld ?_
 simp only [Act.put, List.setIfInBounds_toArray, List.set_cons_zero, List.set_cons_succ]
 refine wpAnyH_take (i := 14) (oi := ⟨some 63, _, _, _, _, _⟩) (v := .bool true) rfl (by kernel_rfl) (by kernel_rfl) (by kernel_rfl) (fun _ _ _ h => h) (Or.inl ⟨by rfl, fun Xw hSW => by go_simp⟩) hHeld ?_
 simp only [Act.put, List.setIfInBounds_toArray, List.set_cons_zero, List.set_cons_succ]
 refine wpAnyH_take (i := 15) (oi := ⟨some 64, _, _, _, _, _⟩) (v := .bool true) rfl (by kernel_rfl) (by kernel_rfl) (by kernel_rfl) (fun _ _ _ h => h) (Or.inl ⟨by rfl, fun Xw hSW => by go_simp⟩) hHeld ?_
 simp only [Act.put, List.setIfInBounds_toArray, List.set_cons_zero, List.set_cons_succ]
 refine wpAnyH_take (i := 16) (oi := ⟨some 65, _, _, _, _, _⟩) (v := .bool true) rfl (by kernel_rfl) (by kernel_rfl) (by kernel_rfl) (fun _ _ _ h => h) (Or.inl ⟨by rfl, fun Xw hSW => by go_simp⟩) hHeld ?_
 simp only [Act.put, List.setIfInBounds_toArray, List.set_cons_zero, List.set_cons_succ]
 refine wpAnyH_take (i := 17) (oi := ⟨some 66, _, _, _, _, _⟩) (v := .int .i64 5) rfl (by kernel_rfl) (by kernel_rfl) (by kernel_rfl) (fun _ _ _ h => h) (Or.inl ⟨by rfl, fun Xw hSW => by go_simp⟩) hHeld ?_
 simp only [Act.put, List.setIfInBounds_toArray, List.set_cons_zero, List.set_cons_succ]
 refine wpAnyH_take (i := 18) (oi := ⟨some 67, _, _, _, _, _⟩) (v := .bool true) rfl (by kernel_rfl) (by kernel_rfl) (by kernel_rfl) (fun _ _ _ h => h) (Or.inl ⟨by rfl, fun Xw hSW => by go_simp⟩) hHeld ?_
 simp only [Act.put, List.setIfInBounds_toArray, List.set_cons_zero, List.set_cons_succ]
 refine wpAnyH_take (i := 19) (oi := ⟨some 68, _, _, _, _, _⟩) (v := .bool true) rfl (by kernel_rfl) (by kernel_rfl) (by kernel_rfl) (fun _ _ _ h => h) (Or.inl ⟨by rfl, fun Xw hSW => by go_simp⟩) hHeld ?_
 simp only [Act.put, List.setIfInBounds_toArray, List.set_cons_zero, List.set_cons_succ]
 refine wpAnyH_take (i := 20) (oi := ⟨some 69, _, _, _, _, _⟩) (v := .bool true) rfl (by kernel_rfl) (by kernel_rfl) (by kernel_rfl) (fun _ _ _ h => h) (Or.inl ⟨by rfl, fun Xw hSW => by go_simp⟩) hHeld ?_
 simp only [Act.put, List.setIfInBounds_toArray, List.set_cons_zero, List.set_cons_succ]
 refine wpAnyH_take (i := 21) (oi := ⟨some 70, _, _, _, _, _⟩) (v := .int .i64 1) rfl (by kernel_rfl) (by kernel_rfl) (by kernel_rfl) (fun _ _ _ h => h) (Or.inl ⟨by rfl, fun Xw hSW => by go_simp⟩) hHeld ?_
 simp only [Act.put, List.setIfInBounds_toArray, List.set_cons_zero, List.set_cons_succ]
 refine wpAnyH_take (i := 22) (oi := ⟨some 71, _, _, _, _, _⟩) (v := .bool true) rfl (by kernel_rfl) (by kernel_rfl) (by kernel_rfl) (fun _ _ _ h => h) (Or.inl ⟨by rfl, fun Xw hSW => by go_simp⟩) hHeld ?_
 simp only [Act.put, List.setIfInBounds_toArray, List.set_cons_zero, List.set_cons_succ]
 refine wpAnyH_take (i := 23) (oi := ⟨some 72, _, _, _, _, _⟩) (v := .bool true) rfl (by kernel_rfl) (by kernel_rfl) (by kernel_rfl) (fun _ _ _ h => h) (Or.inl ⟨by rfl, fun Xw hSW => by go_simp⟩) hHeld ?_
 simp only [Act.put, List.setIfInBounds_toArray, List.set_cons_zero, List.set_cons_succ]
 refine wpAnyH_take (i := 24) (oi := ⟨some 73, _, _, _, _, _⟩) (v := .bool true) rfl (by kernel_rfl) (by kernel_rfl) (by kernel_rfl) (fun _ _ _ h => h) (Or.inl ⟨by rfl, fun Xw hSW => by go_simp⟩) hHeld ?_
 simp only [Act.put, List.setIfInBounds_toArray, List.set_cons_zero, List.set_cons_succ]
 refine wpAnyH_take (i := 25) (oi := ⟨some 74, _, _, _, _, _⟩) (v := .slice (some ⟨g4, 0, none⟩) 16 c4) rfl (by kernel_rfl) (by kernel_rfl) (by kernel_rfl) (fun _ _ _ h => h) (Or.inl ⟨by rfl, fun Xw hSW => by go_simp⟩) hHeld ?_
 simp only [Act.put, List.setIfInBounds_toArray, List.set_cons_zero, List.set_cons_succ]
 refine wpAnyH_take (i := 26) (oi := ⟨some 75, _, _, _, _, _⟩) (v := .pointer (some ⟨g4, 16, none⟩)) rfl (by kernel_rfl) (by kernel_rfl) (by kernel_rfl) (fun _ _ _ h => h) (Or.inl ⟨by rfl, fun Xw hSW => by go_simp⟩) hHeld ?_
 simp only [Act.put, List.setIfInBounds_toArray, List.set_cons_zero, List.set_cons_succ]
 refine wpAnyH_take (i := 27) (oi := ⟨some 76, _, _, _, _, _⟩) (v := .agg #[.int .u8 15, .int .u8 0]) rfl (by kernel_rfl) (by kernel_rfl) (by kernel_rfl) (fun _ _ _ h => h) (Or.inl ⟨by rfl, fun Xw hSW => by have a0 : Xw.cell? ⟨g4, 16, none⟩ = some (.int .u8 15) := hSW.2.1.cell (i := 8) (j := 0) HC4.out rfl; have a1 : Xw.cell? ⟨g4, 17, none⟩ = some (.int .u8 0) := hSW.2.1.cell (i := 8) (j := 1) HC4.out rfl; go_simp⟩) hHeld ?_
 simp only [Act.put, List.setIfInBounds_toArray, List.set_cons_zero, List.set_cons_succ]
 refine wpAnyH_take (i := 28) (oi := ⟨some 77, _, _, _, _, _⟩) (v := .agg #[.int .u8 15, .int .u8 0]) rfl (by kernel_rfl) (by kernel_rfl) (by kernel_rfl) (fun _ _ _ h => h) (Or.inl ⟨by rfl, fun Xw hSW => by go_simp⟩) hHeld ?_
 simp only [Act.put, List.setIfInBounds_toArray, List.set_cons_zero, List.set_cons_succ]
 refine wpAnyH_take (i := 29) (oi := ⟨some 78, _, _, _, _, _⟩) (v := .bool true) rfl (by kernel_rfl) (by kernel_rfl) (by kernel_rfl) (fun _ _ _ h => h) (Or.inl ⟨by rfl, fun Xw hSW => by go_simp⟩) hHeld ?_
 simp only [Act.put, List.setIfInBounds_toArray, List.set_cons_zero, List.set_cons_succ]
 refine wpAnyH_take (i := 30) (oi := ⟨some 79, _, _, _, _, _⟩) (v := .bool true) rfl (by kernel_rfl) (by kernel_rfl) (by kernel_rfl) (fun _ _ _ h => h) (Or.inl ⟨by rfl, fun Xw hSW => by go_simp⟩) hHeld ?_
 simp only [Act.put, List.setIfInBounds_toArray, List.set_cons_zero, List.set_cons_succ]
 refine wpAnyH_take (i := 31) (oi := ⟨some 80, _, _, _, _, _⟩) (v := .bool true) rfl (by kernel_rfl) (by kernel_rfl) (by kernel_rfl) (fun _ _ _ h => h) (Or.inl ⟨by rfl, fun Xw hSW => by go_simp⟩) hHeld ?_
 simp only [Act.put, List.setIfInBounds_toArray, List.set_cons_zero, List.set_cons_succ]
 refine wpAnyH_take (i := 32) (oi := ⟨some 81, _, _, _, _, _⟩) (v := .int .i64 0) rfl (by kernel_rfl) (by kernel_rfl) (by kernel_rfl) (fun _ _ _ h => h) (Or.inl ⟨by rfl, fun Xw hSW => by go_simp⟩) hHeld ?_
 simp only [Act.put, List.setIfInBounds_toArray, List.set_cons_zero, List.set_cons_succ]
 refine wpAnyH_take (i := 33) (oi := ⟨some 82, _, _, _, _, _⟩) (v := .bool true) rfl (by kernel_rfl) (by kernel_rfl) (by kernel_rfl) (fun _ _ _ h => h) (Or.inl ⟨by rfl, fun Xw hSW => by go_simp⟩) hHeld ?_
 simp only [Act.put, List.setIfInBounds_toArray, List.set_cons_zero, List.set_cons_succ]
 refine wpAnyH_take (i := 34) (oi := ⟨some 83, _, _, _, _, _⟩) (v := .bool true) rfl (by kernel_rfl) (by kernel_rfl) (by kernel_rfl) (fun _ _ _ h => h) (Or.inl ⟨by rfl, fun Xw hSW => by go_simp⟩) hHeld ?_
 simp only [Act.put, List.setIfInBounds_toArray, List.set_cons_zero, List.set_cons_succ]
 refine wpAnyH_take (i := 35) (oi := ⟨some 84, _, _, _, _, _⟩) (v := .bool true) rfl (by kernel_rfl) (by kernel_rfl) (by kernel_rfl) (fun _ _ _ h => h) (Or.inl ⟨by rfl, fun Xw hSW => by go_simp⟩) hHeld ?_
 simp only [Act.put, List.setIfInBounds_toArray, List.set_cons_zero, List.set_cons_succ]
 refine wpAnyH_take (i := 36) (oi := ⟨some 85, _, _, _, _, _⟩) (v := .int .i64 0) rfl (by kernel_rfl) (by kernel_rfl) (by kernel_rfl) (fun _ _ _ h => h) (Or.inl ⟨by rfl, fun Xw hSW => by go_simp⟩) hHeld ?_
 simp only [Act.put, List.setIfInBounds_toArray, List.set_cons_zero, List.set_cons_succ]
 refine wpAnyH_take (i := 37) (oi := ⟨some 86, _, _, _, _, _⟩) (v := .bool true) rfl (by kernel_rfl) (by kernel_rfl) (by kernel_rfl) (fun _ _ _ h => h) (Or.inl ⟨by rfl, fun Xw hSW => by go_simp⟩) hHeld ?_
 simp only [Act.put, List.setIfInBounds_toArray, List.set_cons_zero, List.set_cons_succ]
 refine wpAnyH_take (i := 38) (oi := ⟨some 87, _, _, _, _, _⟩) (v := .bool true) rfl (by kernel_rfl) (by kernel_rfl) (by kernel_rfl) (fun _ _ _ h => h) (Or.inl ⟨by rfl, fun Xw hSW => by go_simp⟩) hHeld ?_
 simp only [Act.put, List.setIfInBounds_toArray, List.set_cons_zero, List.set_cons_succ]
 refine wpAnyH_take (i := 39) (oi := ⟨some 88, _, _, _, _, _⟩) (v := .bool true) rfl (by kernel_rfl) (by kernel_rfl) (by kernel_rfl) (fun _ _ _ h => h) (Or.inl ⟨by rfl, fun Xw hSW => by go_simp⟩) hHeld ?_
 simp only [Act.put, List.setIfInBounds_toArray, List.set_cons_zero, List.set_cons_succ]
 refine wpAnyH_take (i := 40) (oi := ⟨some 89, _, _, _, _, _⟩) (v := .int .i64 0) rfl (by kernel_rfl) (by kernel_rfl) (by kernel_rfl) (fun _ _ _ h => h) (Or.inl ⟨by rfl, fun Xw hSW => by go_simp⟩) hHeld ?_
 simp only [Act.put, List.setIfInBounds_toArray, List.set_cons_zero, List.set_cons_succ]
 refine wpAnyH_take (i := 41) (oi := ⟨some 90, _, _, _, _, _⟩) (v := .bool true) rfl (by kernel_rfl) (by kernel_rfl) (by kernel_rfl) (fun _ _ _ h => h) (Or.inl ⟨by rfl, fun Xw hSW => by go_simp⟩) hHeld ?_
 simp only [Act.put, List.setIfInBounds_toArray, List.set_cons_zero, List.set_cons_succ]
 refine wpAnyH_take (i := 42) (oi := ⟨some 91, _, _, _, _, _⟩) (v := .bool true) rfl (by kernel_rfl) (by kernel_rfl) (by kernel_rfl) (fun _ _ _ h => h) (Or.inl ⟨by rfl, fun Xw hSW => by go_simp⟩) hHeld ?_
 simp only [Act.put, List.setIfInBounds_toArray, List.set_cons_zero, List.set_cons_succ]
 refine wpAnyH_take (i := 43) (oi := ⟨some 92, _, _, _, _, _⟩) (v := .bool true) rfl (by kernel_rfl) (by kernel_rfl) (by kernel_rfl) (fun _ _ _ h => h) (Or.inl ⟨by rfl, fun Xw hSW => by go_simp⟩) hHeld ?_
 simp only [Act.put, List.setIfInBounds_toArray, List.set_cons_zero, List.set_cons_succ]
 refine wpAnyH_take (i := 44) (oi := ⟨some 93, _, _, _, _, _⟩) (v := .pointer (some ⟨f.F, 0, none⟩)) rfl (by kernel_rfl) (by kernel_rfl) (by kernel_rfl) (fun _ _ _ h => h) (Or.inl ⟨by rfl, fun Xw hSW => by go_simp⟩) hHeld ?_
 simp only [Act.put, List.setIfInBounds_toArray, List.set_cons_zero, List.set_cons_succ]
 refine wpAnyH_take (i := 45) (oi := ⟨some 94, _, _, _, _, _⟩) (v := .pointer (some ⟨f.F, 0, none⟩)) rfl (by kernel_rfl) (by kernel_rfl) (by kernel_rfl) (fun _ _ _ h => h) (Or.inl ⟨by rfl, fun Xw hSW => by go_simp⟩) hHeld ?_
 simp only [Act.put, List.setIfInBounds_toArray, List.set_cons_zero, List.set_cons_succ]
 refine wpAnyH_take (i := 46) (oi := ⟨some 95, _, _, _, _, _⟩) (v := .pointer (some ⟨f.F, 8, none⟩)) rfl (by kernel_rfl) (by kernel_rfl) (by kernel_rfl) (fun _ _ _ h => h) (Or.inl ⟨by rfl, fun Xw hSW => by go_simp⟩) hHeld ?_
 simp only [Act.put, List.setIfInBounds_toArray, List.set_cons_zero, List.set_cons_succ]
 refine wpAnyH_take (i := 47) (oi := ⟨some 96, _, _, _, _, _⟩) (v := .slice none 0 0) rfl (by kernel_rfl) (by kernel_rfl) (by kernel_rfl) (fun _ _ _ h => h) (Or.inl ⟨by rfl, fun Xw hSW => by have k0 : Xw.cell? ⟨f.F, 8, none⟩ = some (.slice none 0 0) := (hSW.2.2.blk.cell (i := 8) rfl).trans (congrArg some HNL.out.1); go_simp⟩) hHeld ?_
 simp only [Act.put, List.setIfInBounds_toArray, List.set_cons_zero, List.set_cons_succ]
 refine wpAnyH_take (i := 48) (oi := ⟨some 97, _, _, _, _, _⟩) (v := .int .i64 0) rfl (by kernel_rfl) (by kernel_rfl) (by kernel_rfl) (fun _ _ _ h => h) (Or.inl ⟨by rfl, fun Xw hSW => by go_simp⟩) hHeld ?_
 simp only [Act.put, List.setIfInBounds_toArray, List.set_cons_zero, List.set_cons_succ]
 refine wpAnyH_take (i := 49) (oi := ⟨some 98, _, _, _, _, _⟩) (v := .pointer (some ⟨f.F, 0, none⟩)) rfl (by kernel_rfl) (by kernel_rfl) (by kernel_rfl) (fun _ _ _ h => h) (Or.inl ⟨by rfl, fun Xw hSW => by go_simp⟩) hHeld ?_
 simp only [Act.put, List.setIfInBounds_toArray, List.set_cons_zero, List.set_cons_succ]
 refine wpAnyH_take (i := 50) (oi := ⟨some 99, _, _, _, _, _⟩) (v := .pointer (some ⟨f.F, 0, none⟩)) rfl (by kernel_rfl) (by kernel_rfl) (by kernel_rfl) (fun _ _ _ h => h) (Or.inl ⟨by rfl, fun Xw hSW => by go_simp⟩) hHeld ?_
 simp only [Act.put, List.setIfInBounds_toArray, List.set_cons_zero, List.set_cons_succ]
 refine wpAnyH_take (i := 51) (oi := ⟨some 100, _, _, _, _, _⟩) (v := .pointer (some ⟨f.F, 9, none⟩)) rfl (by kernel_rfl) (by kernel_rfl) (by kernel_rfl) (fun _ _ _ h => h) (Or.inl ⟨by rfl, fun Xw hSW => by go_simp⟩) hHeld ?_
 simp only [Act.put, List.setIfInBounds_toArray, List.set_cons_zero, List.set_cons_succ]
 refine wpAnyH_take (i := 52) (oi := ⟨some 101, _, _, _, _, _⟩) (v := .slice none 0 0) rfl (by kernel_rfl) (by kernel_rfl) (by kernel_rfl) (fun _ _ _ h => h) (Or.inl ⟨by rfl, fun Xw hSW => by have k0 : Xw.cell? ⟨f.F, 9, none⟩ = some (.slice none 0 0) := (hSW.2.2.blk.cell (i := 9) rfl).trans (congrArg some HNL.out.2); go_simp⟩) hHeld ?_
 simp only [Act.put, List.setIfInBounds_toArray, List.set_cons_zero, List.set_cons_succ]
 refine wpAnyH_take (i := 53) (oi := ⟨some 102, _, _, _, _, _⟩) (v := .int .i64 0) rfl (by kernel_rfl) (by kernel_rfl) (by kernel_rfl) (fun _ _ _ h => h) (Or.inl ⟨by rfl, fun Xw hSW => by go_simp⟩) hHeld ?_
 simp only [Act.put, List.setIfInBounds_toArray, List.set_cons_zero, List.set_cons_succ]
 refine wpAnyH_take (i := 54) (oi := ⟨some 103, _, _, _, _, _⟩) (v := .int .i64 0) rfl (by kernel_rfl) (by kernel_rfl) (by kernel_rfl) (fun _ _ _ h => h) (Or.inl ⟨by rfl, fun Xw hSW => by go_simp; rfl⟩) hHeld ?_
 simp only [Act.put, List.setIfInBounds_toArray, List.set_cons_zero, List.set_cons_succ]
 refine wpAnyH_take (i := 55) (oi := ⟨some 104, _, _, _, _, _⟩) (v := .pointer (some ⟨f.F, 0, none⟩)) rfl (by kernel_rfl) (by kernel_rfl) (by kernel_rfl) (fun _ _ _ h => h) (Or.inl ⟨by rfl, fun Xw hSW => by go_simp⟩) hHeld ?_
 simp only [Act.put, List.setIfInBounds_toArray, List.set_cons_zero, List.set_cons_succ]
 refine wpAnyH_take (i := 56) (oi := ⟨some 105, _, _, _, _, _⟩) (v := .pointer (some ⟨f.F, 0, none⟩)) rfl (by kernel_rfl) (by kernel_rfl) (by kernel_rfl) (fun _ _ _ h => h) (Or.inl ⟨by rfl, fun Xw hSW => by go_simp⟩) hHeld ?_
 simp only [Act.put, List.setIfInBounds_toArray, List.set_cons_zero, List.set_cons_succ]
 refine wpAnyH_take (i := 57) (oi := ⟨some 106, _, _, _, _, _⟩) (v := .pointer (some ⟨f.F, 10, none⟩)) rfl (by kernel_rfl) (by kernel_rfl) (by kernel_rfl) (fun _ _ _ h => h) (Or.inl ⟨by rfl, fun Xw hSW => by go_simp⟩) hHeld ?_
 simp only [Act.put, List.setIfInBounds_toArray, List.set_cons_zero, List.set_cons_succ]
 refine wpAnyH_take (i := 58) (oi := ⟨some 107, _, _, _, _, _⟩) (v := .int .i64 0) rfl (by kernel_rfl) (by kernel_rfl) (by kernel_rfl) (fun _ _ _ h => h) (Or.inl ⟨by rfl, fun Xw hSW => by have k0 : Xw.cell? ⟨f.F, 10, none⟩ = some (.int .i64 0) := (hSW.2.2.blk.cell (i := 10) rfl).trans (by rw [HOT.out]; rfl); go_simp⟩) hHeld ?_
 simp only [Act.put, List.setIfInBounds_toArray, List.set_cons_zero, List.set_cons_succ]
 refine wpAnyH_take (i := 59) (oi := ⟨some 108, _, _, _, _, _⟩) (v := .int .i64 0) rfl (by kernel_rfl) (by kernel_rfl) (by kernel_rfl) (fun _ _ _ h => h) (Or.inl ⟨by rfl, fun Xw hSW => by go_simp; rfl⟩) hHeld ?_
 simp only [Act.put, List.setIfInBounds_toArray, List.set_cons_zero, List.set_cons_succ]
 refine wpAnyH_take (i := 60) (oi := ⟨some 109, _, _, _, _, _⟩) (v := .bool true) rfl (by kernel_rfl) (by kernel_rfl) (by kernel_rfl) (fun _ _ _ h => h) (Or.inl ⟨by rfl, fun Xw hSW => by go_simp⟩) hHeld ?_
 simp only [Act.put, List.setIfInBounds_toArray, List.set_cons_zero, List.set_cons_succ]
 refine wpAnyH_take (i := 61) (oi := ⟨some 110, _, _, _, _, _⟩) (v := .bool true) rfl (by kernel_rfl) (by kernel_rfl) (by kernel_rfl) (fun _ _ _ h => h) (Or.inl ⟨by rfl, fun Xw hSW => by go_simp⟩) hHeld ?_
 simp only [Act.put, List.setIfInBounds_toArray, List.set_cons_zero, List.set_cons_succ]
 refine wpAnyH_take (i := 62) (oi := ⟨some 0, _, _, _, _, _⟩) (v := .bool true) rfl (by kernel_rfl) (by kernel_rfl) (by kernel_rfl) (fun _ _ _ h => h) (Or.inl ⟨by rfl, fun Xw hSW => by go_simp⟩) hHeld ?_
 simp only [Act.put, List.setIfInBounds_toArray, List.set_cons_zero, List.set_cons_succ]
 refine wpAnyH_done (by kernel_rfl) ?_ _
 refine NoPanic.normal ?_
 clear hHeld
 go_wp2_with fail
 go_ret
 exact ⟨rfl, HB8.out.trans (HB9.out.mono HB8.out.size)⟩
end FloodW
end Go.Proofs.YtpimkdaikoclnaaDoor
