import Derived.Defers
import Derived.Recover
import Derived.Test.YtpimkdaikoclnaaDoorFlB11
import Derived.Test.YtpimkdaikoclnaaDoorFlB13
import Derived.Deep.RegionHeld3
import Derived.Test.YtpimkdaikoclnaaDoorFlB1
import Derived.Test.YtpimkdaikoclnaaDoorFlB12
namespace Go.Proofs.YtpimkdaikoclnaaDoor
open Go.RowKit
set_option linter.unusedVariables false
set_option linter.unusedSimpArgs false
namespace FloodW
open BlkP RowG GlowW FloodP
theorem idle_d (w:World):CallsD Tryd.prog 25 #[] .returning w fun e u' w'=>e = .returned (.tuple #[])∧u' = .returning∧w' = w:=by
 refine callsD_of_wpS Tryd.func25 rfl fun c₀ cs hu=>?_
 apply wpS_region
 simp [wpOpsS,go_sem,recoverD,hu,Tryd.ntmps25,Exit.thenS,bodyPostS,results,Tryd.results25]
 cases c₀
 simp_all
theorem run_mkM (w:World):(Instr.makeMap TM none).run Tryd.prog w = .ok (.map (some w.heap.size)) (w.alloc (.map #[] 0)):=rfl
set_option maxRecDepth 100000 in
set_option maxHeartbeats 16000000 in
theorem change_c {w:World} {f:Fld} {p:V} {o1 o2:Nat} (h:FldM w f) (hA:Old f p (o1,o2)) (hT:KindW.Tab w) (hak:f.ak.length≤10000) (hts:f.ts.length≤10000) (hg:¬ SC f 0) :
  Calls Tryd.prog 11 #[.iface 29 (.pointer (some ⟨f.F,0,none⟩)),.agg #[.int .i64 p.1,.int .i64 p.2.1,.int .i64 p.2.2],.agg #[.int .u8 o1,.int .u8 o2]] w (ChangeP w f p (o1,o2)):=by
 have HF:=Lib.hid h
 have HA:=Lib.hid hA
 have HT:=Lib.hid hT
 have HAK:=Lib.hid hak
 have HTS:=Lib.hid hts
 have HG:=Lib.hid hg
 have HP:=Lib.hid (in_may hA.fw hA.inb)
 have HMAY:=Lib.hid (show PlaceW.mayB p.1 p.2.1 p.2.2 = true from mayB_iff.2 (in_may hA.fw hA.inb))
 clear h hA hT hak hts hg
 go_enter_defers Tryd.func11,Tryd.ntmps11
 go_wp2_with fail
 go_at_call 24
 refine calls_named (S:=fun W=>Below w.heap.size w W∧Blk W w.heap.size TP [.int .i64 p.1,.int .i64 p.2.1,.int .i64 p.2.2]∧Blk W (w.heap.size + 1) TC [.int .u8 o1,.int .u8 o2]) ⟨by (repeat' (first | (with_reducible exact Below.refl _ _) | (with_reducible refine Below.setCell ?_ (by (first | omega | (simp; done) | (simp; omega))) _) | (with_reducible refine Below.alloc ?_ (by (first | omega | (simp; done) | (simp; omega))) _) | (with_reducible refine Below.drew ?_) | (with_reducible refine below_drewN ?_ _))),by (repeat' (first | (with_reducible refine BlkP.Blk.drew ?_) | (with_reducible refine BlkP.Blk.drewN ?_ _) | (with_reducible refine BlkP.Blk.setAt (us:=?_) (by first | omega | (simp; done) | (simp; omega)) rfl ?_ ?_) | (with_reducible refine BlkP.Blk.otherAt ?_ (by first | omega | (simp; done) | (simp; omega))) | (with_reducible refine BlkP.Blk.newA' (by first | omega | (simp; done) | (simp; omega)) rfl) | (with_reducible refine BlkP.Blk.alloc ?_ _) | (exact rfl))),by (repeat' (first | (with_reducible refine BlkP.Blk.drew ?_) | (with_reducible refine BlkP.Blk.drewN ?_ _) | (with_reducible refine BlkP.Blk.setAt (us:=?_) (by first | omega | (simp; done) | (simp; omega)) rfl ?_ ?_) | (with_reducible refine BlkP.Blk.otherAt ?_ (by first | omega | (simp; done) | (simp; omega))) | (with_reducible refine BlkP.Blk.newA' (by first | omega | (simp; done) | (simp; omega)) rfl) | (with_reducible refine BlkP.Blk.alloc ?_ _) | (exact rfl)))⟩ ?_
 rintro W1 ⟨hb1,hp1,hc1⟩
 refine (PlaceW.may_b HMAY.out _).mono ?_
 rintro e W2 ⟨rfl,hb2⟩
 have HB2:=Lib.hid (hb1.trans (hb2.mono hb1.size))
 have HP2:=Lib.hid (hp1.below hb2)
 have HC2:=Lib.hid (hc1.below hb2)
 have b0:=HP2.out.cell (i:=0) rfl
 have b1:=HP2.out.cell (i:=1) rfl
 have b2:=HP2.out.cell (i:=2) rfl
 have c0:=HC2.out.cell (i:=0) rfl
 have c1:=HC2.out.cell (i:=1) rfl
 clear hb1 hp1 hc1 hb2
 have hmk:=run_mkM W2
 have hcl:=HC2.out.lt
 have hpl:=HP2.out.lt
 go_wp2_with fail
 clear b0 b1 b2 c0 c1 hmk hcl hpl
 obtain ⟨M,hM⟩:∃ M,W2.heap.size = M:=⟨_,rfl⟩
 have HM:=Lib.hid hM
 go_at_call 26
 refine calls_named (S:=fun W=>Below w.heap.size w W∧Blk W (M + 1) TWk (wcells (ghB f p (o1,o2) (M + 1) M))∧MapK W M []) ⟨HB2.out.trans ((show Below W2.heap.size W2 _ by (repeat' (first | (with_reducible exact Below.refl _ _) | (with_reducible refine Below.setCell ?_ (by (first | omega | (simp; done) | (simp; omega))) _) | (with_reducible refine Below.alloc ?_ (by (first | omega | (simp; done) | (simp; omega))) _) | (with_reducible refine Below.drew ?_) | (with_reducible refine below_drewN ?_ _)))).mono HB2.out.size),by rw [← hM]; (repeat' (first | (with_reducible refine BlkP.Blk.drew ?_) | (with_reducible refine BlkP.Blk.drewN ?_ _) | (with_reducible refine BlkP.Blk.setAt (us:=?_) (by first | omega | (simp; done) | (simp; omega)) rfl ?_ ?_) | (with_reducible refine BlkP.Blk.otherAt ?_ (by first | omega | (simp; done) | (simp; omega))) | (with_reducible refine BlkP.Blk.newA' (by first | omega | (simp; done) | (simp; omega)) rfl) | (with_reducible refine BlkP.Blk.alloc ?_ _) | (exact rfl))),by
  subst hM
  exact ((Below.refl (W2.alloc (.map #[] 0)).heap.size (W2.alloc (.map #[] 0))).alloc (Nat.le_refl _) _).block _ (by simp) |>.trans (heap_alloc_new W2 _)⟩ ?_
 rintro W3 ⟨hb3,hw3,hm3⟩
 rw [hM]
 have hgl:=HT.out.size
 have hbz:=HB2.out.size
 have hsx3:=sx_begin (o:=(o1,o2)) (HF.out.below hb3) HA.out (HT.out.below hb3) HAK.out hw3 hm3 HG.out (by omega) (by omega)
 have hset:Calls Tryd.prog 26 #[.pointer (some ⟨M + 1,0,none⟩),.agg #[.int .u8 o1,.int .u8 o2]] W3 (SettleP W3 (ghB f p (o1,o2) (M + 1) M) (o1,o2) (nowS f)):=settle_c hsx3 (begin_gh (wk:=M + 1) (M:=M) HA.out).setH
 refine hset.mono ?_
 rintro e W4 ⟨g2,rfl,hms,hsx4,hgo4,hkn,s1,s2,s3,s4⟩
 have hci:=chg_iff (begin_gh (wk:=M + 1) (M:=M) HA.out) hms hsx4.st hkn ((begin_gh (wk:=M + 1) (M:=M) HA.out).done s1 s2 s3 s4)
 have HCI:=Lib.hid hci
 have HMS:=Lib.hid hms
 have HSX4:=Lib.hid hsx4
 have HB3:=Lib.hid hb3
 have HGO4:=Lib.hid hgo4
 have hoth:Calls Tryd.prog 27 #[.pointer (some ⟨M + 1,0,none⟩)] W4 (OthersP W4 g2):=by
  have q:=others_c hsx4
  rw [hms.same.1] at q
  exact q
 have HOTH:=Lib.hid hoth
 clear hM hb3 hw3 hm3 hgl hbz hsx3 hset hms hsx4 hgo4 hkn s1 s2 s3 s4 hci hoth HP2 HC2
 go_wp2_with fail
 go_at_call 27
 refine HOTH.out.mono ?_
 clear HOTH
 rintro e W5 ⟨T,A,n,c,rfl,hlen,hdup,hmem,hup,hsx5,hgo5,hrow,hnew⟩
 have HLEN:=Lib.hid hlen
 have HDUP:=Lib.hid hdup
 have HUP:=Lib.hid hup
 have HMEM:=Lib.hid (show ∀ q,q ∈ T↔newL f q from fun q=>(hmem q).trans (HCI.out.2 q))
 have HMEMK:=Lib.hid (show ∀ q,q ∈ T→∃ b,(q,b) ∈ g2.kn from fun q hq=>by
  obtain ⟨⟨q',b⟩,hb,e⟩:=List.mem_map.1 ((hmem q).1 hq).1
  exact ⟨b,by rw [← e]; exact hb⟩)
 have HSX5:=Lib.hid hsx5
 have HGO5:=Lib.hid hgo5
 have HROW:=Lib.hid hrow
 have HTB:=Lib.hid (show ∀ k,g2.f.vT.ownBlock = some k→k < W4.heap.size from fun k hk=>(HSX4.out.st.fld.ts.ge k hk).2)
 obtain ⟨gT,hgT,hgT2,hgT3⟩:∃ gT,(0 < n→A = some ⟨gT,0,none⟩)∧(∀ k,g2.f.vT.ownBlock = some k→k ≠ gT)∧(0 < n→gT < W5.heap.size):=by
  obtain ⟨A',c',e1,_,_,e2⟩:=hrow.1.form hlen
  injection e1 with e1 _ _
  subst e1
  by_cases hn:0 < n
  ·obtain ⟨gT,h1,h2,h3⟩:=e2 hn
   refine ⟨gT,fun _=>h1,fun k hk e=>?_,fun _=>h3⟩
   have h4:=HTB.out k hk
   have h5:=hnew gT (by rw [h1]; rfl)
   omega
  ·exact ⟨W4.heap.size,fun h=>absurd h hn,fun k hk e=>by have:=HTB.out k hk; omega,fun h=>absurd h hn⟩
 have HGT:=Lib.hid hgT
 have HGT2:=Lib.hid hgT2
 have HGT3:=Lib.hid hgT3
 have HNW15:=Lib.hid (show ∀ q,(g2.nw false q,g2.nw true q).1≤15∧(g2.nw false q,g2.nw true q).2≤15 from fun q=>⟨(HSX4.out.st.le false q).2,(HSX4.out.st.le true q).2⟩)
 have HTS2:=Lib.hid (show g2.f.ts.length≤10000 from by
  obtain ⟨⟨_,_,_,_,_,_,e⟩,_⟩:=HMS.out
  rw [e]
  exact HTS.out)
 have HTL:=Lib.hid (show T.length≤1024 from by
  have q:=nodup_len hdup (m:=boxL f) (fun q hq=>(boxL_mem HA.out.fw).2 ((HMEM.out q).1 hq).1)
  have:=boxL_len HA.out.fw
  omega)
 have HWK:=Lib.hid (show g2.wk = M + 1∧g2.f.F = f.F from ⟨HMS.out.same.1,HMS.out.same.2.2.2⟩)
 have HINB:=Lib.hid (show inB g2.f = inB f from by
  obtain ⟨⟨_,_,_,_,_,_,e⟩,_⟩:=HMS.out
  rw [e]
  rfl)
 clear hlen hdup hmem hup hsx5 hgo5 hrow hnew hgT hgT2 hgT3
 go_wp2_with fail
 go_loopw [6,30] (fun v6 v30 wr=>∃ t ft,v6 = .int .i64 (t:Nat)∧v30 = .int .i64 (t:Nat)∧t≤n∧Lp W5 g2 (fun q=>(g2.nw false q,g2.nw true q)) T gT t ft wr) (fun _ v _=>n - (intOf v).toNat)
 case atStart=>exact ⟨0,g2.f,rfl,rfl,Nat.zero_le _,Lp.start HSX5.out.st.fld HGT2.out⟩
 case round =>
  obtain ⟨t,ft,rfl,rfl,ht,hlp⟩:=hrel
  have HLP:=Lib.hid hlp
  by_cases htn:t < n
  ·have htI:(t:Int) < n:=by omega
   have HWR:=Lib.hid (show wrap64 ((t:Int) + 1) = ((t + 1:Nat):Int) by have:=HTL.out; have:=HLEN.out; rw [wr64 (by omega) (by omega)]; omega)
   have hA:=HGT.out (by omega)
   have hgl:=HGT3.out (by omega)
   subst hA
   obtain ⟨⟨qx,qy,qz⟩,hq⟩:∃ q,T[t]? = some q:=⟨_,List.getElem?_eq_getElem (by have:=HLEN.out; omega)⟩
   have HQ:=Lib.hid hq
   obtain ⟨kb,hkb⟩:=HMEMK.out _ (List.mem_of_getElem? hq)
   have HKB:=Lib.hid hkb
   have HFK:=Lib.hid (findK_of HSX5.out.st.dup hkb)
   have hrw:=hlp.row HSX5.out.st HROW.out HGT2.out
   have r0:wr.cell? ⟨gT,t * 3,none⟩ = some (.int .i64 qx):=hrw.cell (j:=0) hq rfl
   have r1:wr.cell? ⟨gT,t * 3 + 1,none⟩ = some (.int .i64 qy):=hrw.cell (j:=1) hq rfl
   have r2:wr.cell? ⟨gT,t * 3 + 2,none⟩ = some (.int .i64 qz):=hrw.cell (j:=2) hq rfl
   clear hlp hq hkb hrw
   go_wp2_with fail
   refine HeldP.wp_named (S:=fun W=>Below wr.heap.size wr W∧Blk W wr.heap.size TP [.int .i64 qx,.int .i64 qy,.int .i64 qz]) ⟨by (repeat' (first | (with_reducible exact Below.refl _ _) | (with_reducible refine Below.setCell ?_ (by (first | omega | (simp; done) | (simp; omega))) _) | (with_reducible refine Below.alloc ?_ (by (first | omega | (simp; done) | (simp; omega))) _) | (with_reducible refine Below.drew ?_) | (with_reducible refine below_drewN ?_ _))),by (repeat' (first | (with_reducible refine BlkP.Blk.drew ?_) | (with_reducible refine BlkP.Blk.drewN ?_ _) | (with_reducible refine BlkP.Blk.setAt (us:=?_) (by first | omega | (simp; done) | (simp; omega)) rfl ?_ ?_) | (with_reducible refine BlkP.Blk.otherAt ?_ (by first | omega | (simp; done) | (simp; omega))) | (with_reducible refine BlkP.Blk.newA' (by first | omega | (simp; done) | (simp; omega)) rfl) | (with_reducible refine BlkP.Blk.alloc ?_ _) | (exact rfl)))⟩ ?_
   rintro W6 ⟨hb6,hq6⟩
   have HQ6:=Lib.hid hq6
   have HLP6:=Lib.hid (HLP.out.below hb6)
   have hwork:=HLP6.out.work HSX5.out.st
   rw [HWK.out.1] at hwork
   have HWK6:=Lib.hid hwork.1
   have HMP6:=Lib.hid hwork.2.1
   have HKN6:=Lib.hid (hwork.2.2 _ _ HKB.out)
   have hlit:=lit_c (a:=g2.nw false (qx,qy,qz)) (b:=g2.nw true (qx,qy,qz)) (HLP6.out.below (Below.refl _ _).drew).fld (HLP6.out.fw HSX5.out.st.fw HNW15.out) (q:=(qx,qy,qz)) (by rw [HLP6.out.inB,HINB.out]; exact ((HMEM.out _).1 (List.mem_of_getElem? HQ.out)).1) (by
    obtain ⟨vT,e⟩:=HLP6.out.f_
    rw [e]
    show (g2.f.ts ++ T.take t).length≤_
    rw [List.length_append,List.length_take]
    have:=HTS2.out
    have:=HTL.out
    omega)
   rw [HLP6.out.same.1,HWK.out.2] at hlit
   have HLIT:=Lib.hid hlit
   have hq6l:=hq6.lt
   clear r0 r1 r2 hb6 hq6 hwork hlit
   refine wp_region_noPanic ?_
   refine wp_region_held_drew (S:=fun Xw=>(Blk Xw wr.heap.size TP [.int .i64 qx,.int .i64 qy,.int .i64 qz]∧Blk Xw (M + 1) TWk (wcells g2))∧MapK Xw g2.M g2.kn∧Blk Xw kb TK (kcells g2 (qx,qy,qz))) (by kernel_rfl) (⟨⟨HQ6.out,HWK6.out⟩,HMP6.out,HKN6.out⟩) (fun hHeld=>?_)
   refine wpAnyH_take (i:=0) (oi:=⟨some 34,_,_,_,_,_⟩) (v:=(.iface 29 (.pointer (some ⟨f.F,0,none⟩)))) rfl (by kernel_rfl) (by kernel_rfl) (by kernel_rfl) (fun _ _ _ h=>h) (Or.inl ⟨by rfl,fun Xw hSW=>by go_simp⟩) hHeld ?_
   simp only [Act.put,List.setIfInBounds_toArray,List.set_cons_zero,List.set_cons_succ]
   refine wpAnyH_take (i:=1) (oi:=⟨some 35,_,_,_,_,_⟩) (v:=.agg #[.int .i64 qx,.int .i64 qy,.int .i64 qz]) rfl (by kernel_rfl) (by kernel_rfl) (by kernel_rfl) (fun _ _ _ h=>h) (Or.inl ⟨by rfl,fun Xw hSW=>by have b0:=hSW.1.1.cell (i:=0) rfl; have b1:=hSW.1.1.cell (i:=1) rfl; have b2:=hSW.1.1.cell (i:=2) rfl; go_simp⟩) hHeld ?_
   simp only [Act.put,List.setIfInBounds_toArray,List.set_cons_zero,List.set_cons_succ]
   refine wpAnyH_take (i:=2) (oi:=⟨some 36,_,_,_,_,_⟩) (v:=.pointer (some ⟨M + 1,0,none⟩)) rfl (by kernel_rfl) (by kernel_rfl) (by kernel_rfl) (fun _ _ _ h=>h) (Or.inl ⟨by rfl,fun Xw hSW=>by go_simp⟩) hHeld ?_
   simp only [Act.put,List.setIfInBounds_toArray,List.set_cons_zero,List.set_cons_succ]
   refine wpAnyH_take (i:=3) (oi:=⟨some 37,_,_,_,_,_⟩) (v:=.pointer (some ⟨M + 1,0,none⟩)) rfl (by kernel_rfl) (by kernel_rfl) (by kernel_rfl) (fun _ _ _ h=>h) (Or.inl ⟨by rfl,fun Xw hSW=>by go_simp⟩) hHeld ?_
   simp only [Act.put,List.setIfInBounds_toArray,List.set_cons_zero,List.set_cons_succ]
   refine wpAnyH_take (i:=4) (oi:=⟨some 38,_,_,_,_,_⟩) (v:=.pointer (some ⟨M + 1,5,none⟩)) rfl (by kernel_rfl) (by kernel_rfl) (by kernel_rfl) (fun _ _ _ h=>h) (Or.inl ⟨by rfl,fun Xw hSW=>by go_simp⟩) hHeld ?_
   simp only [Act.put,List.setIfInBounds_toArray,List.set_cons_zero,List.set_cons_succ]
   refine wpAnyH_take (i:=5) (oi:=⟨some 39,_,_,_,_,_⟩) (v:=.map (some g2.M)) rfl (by kernel_rfl) (by kernel_rfl) (by kernel_rfl) (fun _ _ _ h=>h) (Or.inl ⟨by rfl,fun Xw hSW=>by have k5:=hSW.1.2.cell (i:=5) rfl; go_simp⟩) hHeld ?_
   simp only [Act.put,List.setIfInBounds_toArray,List.set_cons_zero,List.set_cons_succ]
   refine wpAnyH_take (i:=6) (oi:=⟨some 40,_,_,_,_,_⟩) (v:=.agg #[.int .i64 qx,.int .i64 qy,.int .i64 qz]) rfl (by kernel_rfl) (by kernel_rfl) (by kernel_rfl) (fun _ _ _ h=>h) (Or.inl ⟨by rfl,fun Xw hSW=>by have b0:=hSW.1.1.cell (i:=0) rfl; have b1:=hSW.1.1.cell (i:=1) rfl; have b2:=hSW.1.1.cell (i:=2) rfl; go_simp⟩) hHeld ?_
   simp only [Act.put,List.setIfInBounds_toArray,List.set_cons_zero,List.set_cons_succ]
   refine wpAnyH_take (i:=7) (oi:=⟨some 41,_,_,_,_,_⟩) (v:=.pointer (some ⟨kb,0,none⟩)) rfl (by kernel_rfl) (by kernel_rfl) (by kernel_rfl) (fun _ _ _ h=>h) (Or.inl ⟨by rfl,fun Xw hSW=>by have hl:=run_lookupK (qx,qy,qz) hSW.2.1; rw [HFK.out] at hl; simp only [ptrK] at hl; go_simp⟩) hHeld ?_
   simp only [Act.put,List.setIfInBounds_toArray,List.set_cons_zero,List.set_cons_succ]
   refine wpAnyH_take (i:=8) (oi:=⟨some 42,_,_,_,_,_⟩) (v:=.pointer (some ⟨kb,0,none⟩)) rfl (by kernel_rfl) (by kernel_rfl) (by kernel_rfl) (fun _ _ _ h=>h) (Or.inl ⟨by rfl,fun Xw hSW=>by go_simp⟩) hHeld ?_
   simp only [Act.put,List.setIfInBounds_toArray,List.set_cons_zero,List.set_cons_succ]
   refine wpAnyH_take (i:=9) (oi:=⟨some 43,_,_,_,_,_⟩) (v:=.pointer (some ⟨kb,5,none⟩)) rfl (by kernel_rfl) (by kernel_rfl) (by kernel_rfl) (fun _ _ _ h=>h) (Or.inl ⟨by rfl,fun Xw hSW=>by go_simp⟩) hHeld ?_
   simp only [Act.put,List.setIfInBounds_toArray,List.set_cons_zero,List.set_cons_succ]
   refine wpAnyH_take (i:=10) (oi:=⟨some 44,_,_,_,_,_⟩) (v:=.agg #[.int .u8 (g2.nw false (qx,qy,qz):Int),.int .u8 (g2.nw true (qx,qy,qz):Int)]) rfl (by kernel_rfl) (by kernel_rfl) (by kernel_rfl) (fun _ _ _ h=>h) (Or.inl ⟨by rfl,fun Xw hSW=>by have a0:Xw.cell? ⟨kb,5,none⟩ = some (.int .u8 (g2.nw false (qx,qy,qz):Int)):=hSW.2.2.cell (i:=5) rfl; have a1:Xw.cell? ⟨kb,6,none⟩ = some (.int .u8 (g2.nw true (qx,qy,qz):Int)):=hSW.2.2.cell (i:=6) rfl; go_simp⟩) hHeld ?_
   simp only [Act.put,List.setIfInBounds_toArray,List.set_cons_zero,List.set_cons_succ]
   refine wpAnyH_take (i:=11) (oi:=⟨some 45,_,_,_,_,_⟩) (v:=(.iface 29 (.pointer (some ⟨f.F,0,none⟩)))) rfl (by kernel_rfl) (by kernel_rfl) (by kernel_rfl) (fun _ _ _ h=>h) (Or.inl ⟨by rfl,fun Xw hSW=>by go_simp⟩) hHeld ?_
   simp only [Act.put,List.setIfInBounds_toArray,List.set_cons_zero,List.set_cons_succ]
   refine wpAnyH_take (i:=12) (oi:=⟨some 46,_,_,_,_,_⟩) (v:=(.iface 29 (.pointer (some ⟨f.F,0,none⟩)))) rfl (by kernel_rfl) (by kernel_rfl) (by kernel_rfl) (fun _ _ _ h=>h) (Or.inl ⟨by rfl,fun Xw hSW=>by go_simp⟩) hHeld ?_
   simp only [Act.put,List.setIfInBounds_toArray,List.set_cons_zero,List.set_cons_succ]
   refine wpAnyH_ready (rs:=[13]) (by kernel_rfl) (by simp) ?_
   refine AllReadyH.cons (o:=⟨some 47,_,_,_,_,_⟩) rfl (fun K hK=>?_) AllReadyH.nil
   go_simp
   refine HLIT.out.mono ?_
   rintro e W7 ⟨rfl,hlp7⟩
   have hqb:Blk W7 wr.heap.size TP [.int .i64 qx,.int .i64 qy,.int .i64 qz]:=by
    obtain ⟨_,_,_,hfr,_⟩:=hlp7
    refine hfr.blk (w:=W6.drew) HQ6.out (fun hk=>?_)
    rcases hk with e | e | e
    ·have h1:=HLP.out.fld.blk.lt
     omega
    ·have h1:=(HLP.out.fld.ts.ge _ e).2
     omega
    ·have h1:=(HLP.out.fld.ls.ge _ e).2
     omega
   obtain ⟨f2,hn7⟩:=(HLP6.out.below (Below.refl _ _).drew).next HQ.out hgl hlp7
   have HLP7:=Lib.hid hn7
   have hw7:=hn7.work HSX5.out.st
   rw [HWK.out.1] at hw7
   have HH7:=Lib.hid (show (Blk W7 wr.heap.size TP [.int .i64 qx,.int .i64 qy,.int .i64 qz]∧Blk W7 (M + 1) TWk (wcells g2))∧MapK W7 g2.M g2.kn∧Blk W7 kb TK (kcells g2 (qx,qy,qz)) from ⟨⟨hqb,hw7.1⟩,hw7.2.1,hw7.2.2 _ _ HKB.out⟩)
   clear hqb hn7 hw7 hlp7
   try go_wp2_with fail
   refine hK.out _ _ (HH7.out) (fun hHeld=>?_)
   clear hK K
   refine wpAnyH_done (by kernel_rfl) ?_ _
   refine NoPanic.normal ?_
   go_wp2_with fail
   go_roundw
   case rel=>exact ⟨t + 1,f2,by rw [HWR.out],by rw [HWR.out],by omega,HLP7.out⟩
   case measure =>
    rw [HWR.out]
    simp only [intOf]
    omega
  ·have hte:t = n:=by omega
   subst hte
   have htI:¬ (t:Int) < t:=by omega
   clear htn ht
   go_wp2_with fail
   refine leaves_cons (f:=25) (args:=#[]) (by simp) (by simp [go_sem]) ?_
   refine (idle_d _).mono ?_
   rintro e u' w'' ⟨rfl,rfl,rfl⟩
   refine ⟨_,results_tmp rfl _ _ _,T,ft,by rw [HLEN.out]; rfl,?_⟩
   obtain ⟨vT,eft⟩:=HLP.out.f_
   obtain ⟨⟨vA,ak,kn,lo,ow,nw,eg⟩,_⟩:=HMS.out
   have hgf:g2.f = { f with vA:=vA,ak:=ak }:=by rw [eg]; rfl
   have hkd:g2.kd = nearK f p (o1,o2):=by rw [eg]; rfl
   have hak0:g2.ak0 = f.ak:=by rw [eg]; rfl
   obtain ⟨_,l,hl1,hl2,hl3⟩:=HSX5.out.st.asks
   have hkl:=HSX5.out.st.kn_le
   have hMz:w.heap.size≤M:=by rw [← HM.out]; exact HB2.out.size
   have hss:∀ i,Ss (ghB f p (o1,o2) (M + 1) M) i→SC f i ∨ w.heap.size≤i:=fun i hi=>by
    rcases hi with e | e | e | e | e
    ·exact .inl (.inl e)
    ·exact .inl (.inr (.inl e))
    ·have e':i = M + 1:=e
     exact .inr (by omega)
    ·have e':i = M:=e
     exact .inr (by omega)
    ·cases e
   have hss2:∀ i,Ss g2 i→SC f i ∨ w.heap.size≤i:=fun i hi=>by
    rcases HGO4.out.new i hi with q | q
    ·exact hss i q
    ·exact .inr (Nat.le_trans HB3.out.size q)
   have hsl:∀ i,SLg g2 i→SC f i:=fun i hi=>by
    unfold SLg at hi
    rw [hgf] at hi
    rcases hi with e | e | e
    ·exact .inl e
    ·exact .inr (.inr (.inl e))
    ·exact .inr (.inr (.inr e))
   refine ⟨HLP.out.fld,⟨vA,vT,l,?_,by omega,fun q hq=>?_⟩,(((Fr.below (SC f) HB3.out).trans HGO4.out.fr hss).trans HGO5.out.fr hss2).trans HLP.out.fr (fun i hi=>.inl (hsl i hi)),fun k hk=>?_,HDUP.out,HUP.out,HMEM.out⟩
   ·have hts:T.take t = T:=List.take_of_length_le (by rw [HLEN.out]; exact Nat.le_refl _)
    have hls:setL f (fun q=>(g2.nw false q,g2.nw true q)) T f.ls = rightL f:=by
     rw [← setL_right HA.out.fw HMEM.out,HCI.out.1 false,HCI.out.1 true]
     rfl
    have hakE:ak = f.ak ++ l:=by
     rw [hgf,hak0] at hl1
     exact hl1
    rw [eft,hts,hgf,hakE]
    show ({ f with vA:=vA,vT:=vT,ak:=f.ak ++ l,ts:=f.ts ++ T,ls:=setL f (fun q=>(g2.nw false q,g2.nw true q)) T f.ls }:Fld) = _
    rw [hls]
   ·have q1:=(HSX5.out.st.few q (hl3 q hq)).2.2
    rw [hkd] at q1
    exact q1
   ·rcases hk with e | e | e | e
    ·exact .inl (.inl (e.trans (HLP.out.same.1.trans HWK.out.2)))
    ·rw [eft] at e
     exact hss2 k (.inr (.inl e))
    ·rcases (HLP.out.new k e).2 with q | q
     ·exact .inl (hsl k q)
     ·have h1:=HB3.out.size
      have h2:=HGO4.out.fr.size
      have h3:=HGO5.out.fr.size
      exact .inr (by omega)
    ·rw [HLP.out.same.2.1,hgf] at e
     exact .inl (.inr (.inr (.inr e)))
end FloodW
end Go.Proofs.YtpimkdaikoclnaaDoor
namespace Go.Proofs.YtpimkdaikoclnaaDoor
open Go.RowKit
set_option linter.unusedVariables false
set_option linter.unusedSimpArgs false
namespace FloodW
open BlkP RowG GlowW FloodP
theorem FldM.putM {f:Fld} {w:World} {gl n c:Nat} (h:FldM w f) (hv:f.vC = .slice (some ⟨gl,0,none⟩) n c) {i:Nat} {x:Nat × Nat} (hx:f.cs[i]? = some x) (a b:Nat) :
  FldM ((w.setCell ⟨gl,i * 2,none⟩ (.int .u8 a)).setCell ⟨gl,i * 2 + 1,none⟩ (.int .u8 b)) (f.put i (a,b))∧Fr (fun k=>k = gl) w ((w.setCell ⟨gl,i * 2,none⟩ (.int .u8 a)).setCell ⟨gl,i * 2 + 1,none⟩ (.int .u8 b)):=by
 obtain ⟨h1,h2⟩:=own2_store (hv ▸ h.cs) hx a b
 obtain ⟨us,hu⟩:=own_cells h.cs (g:=gl) (by rw [hv]; rfl)
 have key:∀ {α:Type} {e:Enc α} {E:TypeId} {v:Value} {l:List α},RowG.Own e E w 0 v l→E ≠ TC→∀ k,v.ownBlock = some k→¬ k = gl:=fun ho hE k e e2=>by
  obtain ⟨us2,hu2⟩:=own_cells ho e
  rw [e2] at hu2
  exact Blk.ne hu2 hu hE rfl
 refine ⟨⟨h2.blk h.blk (fun e=>Blk.ne h.blk hu (by decide) e),?_,h2.own h.ls (key h.ls (by decide)),h2.own h.ak (key h.ak (by decide)),h2.own h.ts (key h.ts (by decide)),h.dj⟩,h2⟩
 show RowG.Own enc2 TC _ 0 f.vC (f.cs.set i (a,b))
 rw [hv]
 exact h1
def colL (g:Fld):List (Nat × Nat):=(List.range 16).map fun (j:Nat)=>(litV g (rightL g) false (3,48 + (j:Int),3),litV g (rightL g) true (3,48 + (j:Int),3))
def OverP (w:World) (y:Nat) (c:Nat × Nat) (e:Ending) (w':World):Prop:=∃ (f:Fld) (T:List V) (v:Value),e = .returned (.tuple #[.int .i64 (T.length:Nat),v])∧Ov f∧f.ls = rightL f∧T.Nodup∧(∀ q:V,q ∈ T↔newL (f.put (49 * y + 24) c) q)∧RowG.Own enc2 TL w' w.heap.size v (colL (f.put (49 * y + 24) c))∧Below w.heap.size w w'
abbrev TSL:TypeId:=37
section
variable {w0:World} {ops:Array Oper} {rest:List Oper} {o:Oper} {a:Act} {Q:Exit→Act→World→Prop} {W:World}
theorem wp_pushLt (hgd:o.guard = none) (s x:Operand) (ho:o.op = .call { callee:=.builtin .append,args:=#[s,x],argTypes:=#[TSL,TSL] }) {B:Nat} {v:Value} {l:List (Nat × Nat)} {y:Nat × Nat} {x1 x2:Nat} {n:Nat}
  (hW:W = w0.alloc (.cells #[.int .u8 x1,.int .u8 x2] TL)) (hy:y = (x1,x2)) (hs:a.eval s = v) (hown:RowG.Own enc2 TL w0 B v l) (hx:a.eval x = .slice (some ⟨w0.heap.size,0,none⟩) 1 1) (hn:l.length = n) (hl:n≤1000000) (hB:B≤w0.heap.size)
  (h:∀ g c w',Pushed enc2 TL w0 B v l y (n + 1) g c w'→wpList Tryd.prog ops Q rest (a.put o.dst (.slice (some ⟨g,0,none⟩) (n + 1) c)) w'):wpList Tryd.prog ops Q (o :: rest) a W:=by
 subst hW hy hn
 refine wpList_plain hgd fun K hK=>?_
 obtain ⟨g,cp,w',hr,h2,h3,h4⟩:=run_pushG enc2 underLights infoLight rfl (by decide) (by decide) (y:=(x1,x2)) (c:=#[.int .u8 x1,.int .u8 x2]) rfl hown hl hB o.type
 unfold Oper.wp execOp
 simp only [ho,resolve,invoke,builtin,Sem.run_bind,Sem.run_pure,Result.andThen_ok,List.map_toArray,List.map_cons,List.map_nil,hs,hx,hr]
 refine hK _ _ (h g cp w' ⟨h2,h3,?_⟩)
 rcases h4 with q | ⟨g',q,hg⟩
 ·exact .inl q.symm
 ·have:g = g':=by simpa [Value.ownBlock] using q
  subst this
  exact .inr hg
end
def soil (m j:Nat):List (Nat × Nat):=List.replicate j (3,0) ++ List.replicate (m - j) (0,0)
theorem soil_next {m j:Nat} (h:j < m):(soil m j).set j (3,0) = soil m (j + 1):=by
 unfold soil
 rw [List.set_append_right _ _ (by simp)]
 obtain ⟨d,hd⟩:∃ d,m - j = d + 1:=⟨m - j - 1,by omega⟩
 rw [hd,show m - (j + 1) = d by omega,List.replicate_succ]
 simp [List.replicate_succ']
theorem soil_at {m j:Nat} (h:j < m):(soil m j)[j]? = some (0,0):=by
 unfold soil
 rw [List.getElem?_append_right (by simp),show j - (List.replicate j ((3:Nat),(0:Nat))).length = 0 by simp,List.getElem?_replicate,if_pos (by omega)]
theorem soil_zero (m:Nat):soil m 0 = List.replicate m (0,0):=by simp [soil]
theorem made_nil (n:Nat):madeC [] n = List.replicate n (0,0):=by
 apply List.ext_getElem?
 intro i
 unfold madeC
 rw [List.getElem?_map]
 by_cases h:i < n
 ·rw [List.getElem?_range h]
  simp [pickC_nil,h]
 ·rw [List.getElem?_eq_none (by simp; omega),List.getElem?_eq_none (by simp; omega)]
  rfl
def Rel1O (w W1:World) (f:Fld) (v:Value) (wr:World):Prop:=∃ j:Nat,v = .int .i64 (j:Nat)∧j≤441∧FldM wr { f with cs:=soil 784 j }∧Fr (fun k=>f.vC.ownBlock = some k) W1 wr
set_option maxRecDepth 100000 in
set_option maxHeartbeats 16000000 in
theorem over_c {w:World} {y k l:Nat} (hT:KindW.Tab w) (hy:y < 16) (hk:k < 256∧l < 256):Calls Tryd.prog 9 #[.int .i64 y,.agg #[.int .u8 k,.int .u8 l]] w (OverP w y (k,l)):=by
 have HT:=Lib.hid hT
 have hgk:=hT.size
 clear hT
 go_enter Tryd.func9,Tryd.ntmps9
 go_wp2_with fail
 go_at_call 10
 refine calls_named (S:=fun W=>Below w.heap.size w W∧Blk W w.heap.size TC [.int .u8 k,.int .u8 l]) ⟨by (repeat' (first | (with_reducible exact Below.refl _ _) | (with_reducible refine Below.setCell ?_ (by (first | omega | (simp; done) | (simp; omega))) _) | (with_reducible refine Below.alloc ?_ (by (first | omega | (simp; done) | (simp; omega))) _) | (with_reducible refine Below.drew ?_) | (with_reducible refine below_drewN ?_ _))),by (repeat' (first | (with_reducible refine BlkP.Blk.drew ?_) | (with_reducible refine BlkP.Blk.drewN ?_ _) | (with_reducible refine BlkP.Blk.setAt (us:=?_) (by first | omega | (simp; done) | (simp; omega)) rfl ?_ ?_) | (with_reducible refine BlkP.Blk.otherAt ?_ (by first | omega | (simp; done) | (simp; omega))) | (with_reducible refine BlkP.Blk.newA' (by first | omega | (simp; done) | (simp; omega)) rfl) | (with_reducible refine BlkP.Blk.alloc ?_ _) | (exact rfl)))⟩ ?_
 rintro W0 ⟨hb0,hc0⟩
 refine (made_c (w:=W0) (p:=(0,48,0)) (x:=6) (y:=15) (z:=6) (cl:=[]) (Rd.nil _ _) rfl (fun c hc=>(by cases hc))).mono ?_
 rintro e W1 ⟨f,rfl,hmk⟩
 have hX:f.X = 7:=by have:=hmk.x; omega
 have hY:f.Y = 16:=by have:=hmk.y; omega
 have hZ:f.Z = 7:=by have:=hmk.z; omega
 have hlo:f.lo = (0,48,0):=by
  rw [hmk.lo,hX,hY,hZ]
  rfl
 have hcs:f.cs = List.replicate 784 (0,0):=by rw [hmk.cs,hX,hY,hZ,made_nil]
 have HX:=Lib.hid (show f.X = 7∧f.Y = 16∧f.Z = 7∧f.lo = (0,48,0) from ⟨hX,hY,hZ,hlo⟩)
 obtain ⟨A,cC,hvC,_,_,hAC⟩:=hmk.fld.cs.form (n:=784) (by rw [hcs]; exact List.length_replicate)
 obtain ⟨gC,rfl,_,hgl⟩:=hAC (by omega)
 have HVC:=Lib.hid hvC
 have HMK:=Lib.hid hmk
 have HC1:=Lib.hid (hc0.below hmk.bel)
 have HB1:=Lib.hid (hb0.trans (hmk.bel.mono hb0.size))
 have HF0:=Lib.hid (show w.heap.size + 1≤f.F∧w.heap.size + 1≤gC from by
  have h1:=hc0.lt
  have h2:=hmk.new f.F (.inl rfl)
  have h3:=hmk.new gC (.inr (.inl (by rw [hvC]; rfl)))
  omega)
 have HFM1:=Lib.hid (show FldM W1 { f with cs:=soil 784 0 } from by rw [soil_zero,← hcs]; exact hmk.fld)
 have HFG:=Lib.hid (show f.F ≠ gC from fun e=>by
  obtain ⟨us,hu⟩:=own_cells hmk.fld.cs (g:=gC) (by rw [hvC]; rfl)
  exact Blk.ne hmk.fld.blk hu (by decide) e)
 clear hX hY hZ hlo hcs hvC hAC hmk hc0 hb0
 go_wp2_with fail
 go_loopw [7] (fun v wr=>Rel1O w W1 f v wr) (fun v _=>441 - (intOf v).toNat)
 case atStart=>exact ⟨0,rfl,by omega,HFM1.out,Fr.refl _ _⟩
 case round =>
  obtain ⟨j,rfl,hj,hfm,hfr⟩:=hrel
  have HFM:=Lib.hid hfm
  have HFR:=Lib.hid hfr
  by_cases hj4:j < 441
  ·have hjI:(j:Int) < 441:=by omega
   have hj7:(j:Int) < 784:=by omega
   have hj78:j < 784:=by omega
   have k6:wr.cell? ⟨f.F,6,none⟩ = some (.slice (some ⟨gC,0,none⟩) 784 cC):=(hfm.blk.cell (i:=6) (v:=f.vC) rfl).trans (congrArg some HVC.out)
   have HO:=Lib.hid (show RowG.Own enc2 TC wr 0 (.slice (some ⟨gC,0,none⟩) 784 cC) (soil 784 j) from HVC.out ▸ hfm.cs)
   have q0:wr.cell? ⟨gC,j * 2,none⟩ = some (.int .u8 0):=HO.out.cell (j:=0) (soil_at (m:=784) (j:=j) (by omega)) rfl
   have q1:wr.cell? ⟨gC,j * 2 + 1,none⟩ = some (.int .u8 0):=HO.out.cell (j:=1) (soil_at (m:=784) (j:=j) (by omega)) rfl
   have z0:=HO.out.frozen (j * 2)
   have z1:=HO.out.frozen (j * 2 + 1)
   have HWR:=Lib.hid (show wrap64 ((j:Int) + 1) = ((j + 1:Nat):Int) by rw [wr64 (by omega) (by omega)]; omega)
   clear hfm hfr
   go_wp2_with fail
   go_roundw
   case rel =>
    have q:=FldM.putM HFM.out HVC.out (i:=j) (x:=(0,0)) (soil_at (m:=784) (j:=j) (by omega)) 3 0
    refine ⟨j + 1,by first | rfl | rw [HWR.out] | (congr 1; omega),by omega,?_,HFR.out.trans q.2 (fun i hi=>.inl ?_)⟩
    ·have e:(soil 784 j).set j (3,0) = soil 784 (j + 1):=soil_next (m:=784) (by omega)
     rw [← e]
     exact q.1
    ·have hi':i = gC:=hi
     rw [hi',HVC.out]
     rfl
   case measure =>
    simp only [intOf]
    omega
  ·have hje:j = 441:=by omega
   have hjI:¬ (j:Int) < 441:=by omega
   have hov:Ov { f with cs:=soil 784 j }:=⟨HX.out.2.2.2,HX.out.1,HX.out.2.1,HX.out.2.2.1,by rw [hje]; rfl⟩
   have HOV:=Lib.hid hov
   obtain ⟨f1,hf1⟩:∃ f1:Fld,{ f with cs:=soil 784 j } = f1:=⟨_,rfl⟩
   have HF1:=Lib.hid (show f1.F = f.F∧f1.vC = f.vC∧f1.vA = .slice none 0 0∧f1.vT = .slice none 0 0∧f1.ak = []∧f1.ts = [] from by rw [← hf1]; exact ⟨rfl,rfl,HMK.out.nil.1,HMK.out.nil.2,HMK.out.ak,HMK.out.ts⟩)
   rw [hf1] at hfm HOV
   have HFM1:=Lib.hid hfm
   have hrt:=right_c hfm HOV.out.c
   rw [HF1.out.1] at hrt
   have HRT:=Lib.hid hrt
   have HBW:=Lib.hid (show Below w.heap.size w wr from HB1.out.trans (hfr.toBelow HB1.out.size (fun i hi=>by
    have hi':f.vC.ownBlock = some i:=hi
    rw [HVC.out] at hi'
    have e:gC = i:=by simpa [Value.ownBlock] using hi'
    have:=HF0.out
    omega)))
   have HCW:=Lib.hid (show Blk wr w.heap.size TC [.int .u8 k,.int .u8 l] from hfr.blk HC1.out (fun hk=>by
    have hi':f.vC.ownBlock = some w.heap.size:=hk
    rw [HVC.out] at hi'
    have e:gC = w.heap.size:=by simpa [Value.ownBlock] using hi'
    have:=HF0.out
    omega))
   clear hov hf1 hfm hfr hrt hje HFM HFR HMK
   go_wp2_with fail
   go_at_call 18
   refine HRT.out.mono ?_
   rintro e W2 ⟨v,rfl,ho,hb2⟩
   obtain ⟨A2,c2,rfl,_,_,_⟩:=ho.form rfl
   have HO2:=Lib.hid ho
   have HFM2:=Lib.hid (HFM1.out.below hb2)
   have HB2:=Lib.hid (HBW.out.trans (hb2.mono HBW.out.size))
   have HC2:=Lib.hid (HCW.out.below hb2)
   have b7:W2.cell? ⟨f.F,7,none⟩ = some f1.vL:=by
    have q:=HFM2.out.blk.cell (i:=7) (v:=f1.vL) rfl
    rwa [HF1.out.1] at q
   have z7:W2.frozen? ⟨f.F,7,none⟩ = false:=by
    have q:=HFM2.out.blk.frozen 7
    rwa [HF1.out.1] at q
   obtain ⟨vR,hvR⟩:∃ vR:Value,.slice A2 (rightL f1).length c2 = vR:=⟨_,rfl⟩
   obtain ⟨f2,hf2⟩:∃ f2:Fld,{ f1 with vL:=.slice A2 (rightL f1).length c2,ls:=rightL f1 } = f2:=⟨_,rfl⟩
   have hls:=HFM2.out.setLs HO2.out
   rw [hf2,HF1.out.1] at hls
   have HLS:=Lib.hid hls
   have HF2:=Lib.hid (show f2.F = f.F∧f2.vC = .slice (some ⟨gC,0,none⟩) 784 cC∧f2.vA = .slice none 0 0∧f2.vT = .slice none 0 0∧f2.ak = []∧f2.ts = []∧f2.cs = f1.cs∧(∀ i,f2.vL.ownBlock = some i→w.heap.size≤i) from by
    rw [← hf2]
    refine ⟨HF1.out.1,HF1.out.2.1.trans HVC.out,HF1.out.2.2.1,HF1.out.2.2.2.1,HF1.out.2.2.2.2.1,HF1.out.2.2.2.2.2,rfl,fun i hi=>?_⟩
    have h1:=(HO2.out.ge i hi).1
    have h2:=HBW.out.size
    omega)
   have HOV2:=Lib.hid (show Ov f2 from by rw [← hf2]; exact ⟨HOV.out.lo,HOV.out.x,HOV.out.y,HOV.out.z,HOV.out.cs⟩)
   have HRL2:=Lib.hid (show f2.ls = rightL f2 from by rw [← hf2]; exact (rightL_cs rfl rfl rfl rfl rfl).symm)
   clear ho hb2 hf2 hls hvR
   obtain ⟨i,hi⟩:∃ i,49 * y + 24 = i:=⟨_,rfl⟩
   have HI:=Lib.hid hi
   have hi784:i < 784:=by omega
   have hiI:(i:Int) < 784:=by omega
   have m1:(49:Int) * (y:Int) + 24 = (i:Int):=by omega
   obtain ⟨⟨o1,o2⟩,ho⟩:∃ o,f2.cs[i]? = some o:=⟨_,List.getElem?_eq_getElem (by rw [HOV2.out.cs,ovC_len]; exact hi784)⟩
   have HOA:=Lib.hid ho
   have HW3:=Lib.hid (show FldM (W2.setCell ⟨f.F,7,none⟩ (.slice A2 (rightL f1).length c2)) f2 from HLS.out)
   have HOC:=Lib.hid (show RowG.Own enc2 TC (W2.setCell ⟨f.F,7,none⟩ (.slice A2 (rightL f1).length c2)) 0 (.slice (some ⟨gC,0,none⟩) 784 cC) f2.cs from HF2.out.2.1 ▸ HLS.out.cs)
   have k6:W2.cell? ⟨f.F,6,none⟩ = some (.slice (some ⟨gC,0,none⟩) 784 cC):=by
    have q:=HFM2.out.blk.cell (i:=6) (v:=f1.vC) rfl
    rwa [HF1.out.1,HF1.out.2.1,HVC.out] at q
   have HOC2:=Lib.hid (show RowG.Own enc2 TC W2 0 (.slice (some ⟨gC,0,none⟩) 784 cC) f2.cs from by
    have q:=HFM2.out.cs
    rwa [HF1.out.2.1,HVC.out,← HF2.out.2.2.2.2.2.2.1] at q)
   have g0:W2.cell? ⟨gC,i * 2,none⟩ = some (.int .u8 (o1:Int)):=HOC2.out.cell (j:=0) ho rfl
   have g1:W2.cell? ⟨gC,i * 2 + 1,none⟩ = some (.int .u8 (o2:Int)):=HOC2.out.cell (j:=1) ho rfl
   have hfg:=HFG.out
   have hgf:gC ≠ f.F:=fun e=>hfg e.symm
   clear ho hi
   go_wp2_with fail
   clear k6 g0 g1 b7 z7 m1
   refine HeldP.wp_named (S:=fun W=>Below w.heap.size w W∧FldM W f2∧Blk W w.heap.size TC [.int .u8 k,.int .u8 l]∧Blk W W2.heap.size TC [.int .u8 o1,.int .u8 o2]) ⟨HB2.out.trans ?_,HW3.out.below (by (repeat' (first | (with_reducible exact Below.refl _ _) | (with_reducible refine Below.setCell ?_ (by (first | omega | (simp; done) | (simp; omega))) _) | (with_reducible refine Below.alloc ?_ (by (first | omega | (simp; done) | (simp; omega))) _) | (with_reducible refine Below.drew ?_) | (with_reducible refine below_drewN ?_ _)))),?_,by (repeat' (first | (with_reducible refine BlkP.Blk.drew ?_) | (with_reducible refine BlkP.Blk.drewN ?_ _) | (with_reducible refine BlkP.Blk.setAt (us:=?_) (by first | omega | (simp; done) | (simp; omega)) rfl ?_ ?_) | (with_reducible refine BlkP.Blk.otherAt ?_ (by first | omega | (simp; done) | (simp; omega))) | (with_reducible refine BlkP.Blk.newA' (by first | omega | (simp; done) | (simp; omega)) rfl) | (with_reducible refine BlkP.Blk.alloc ?_ _) | (exact rfl)))⟩ ?_
   ·have h2z:=HB2.out.size
    have h0z:=HF0.out
    have hFw:w.heap.size≤f.F:=by omega
    (repeat' (first | (with_reducible exact Below.refl _ _) | (with_reducible refine Below.setCell ?_ (by (first | omega | (simp; done) | (simp; omega))) _) | (with_reducible refine Below.alloc ?_ (by (first | omega | (simp; done) | (simp; omega))) _) | (with_reducible refine Below.drew ?_) | (with_reducible refine below_drewN ?_ _)))
   ·have q:=HC2.out
    have hne:w.heap.size ≠ f.F:=by have:=HF0.out; omega
    (repeat' (first | (with_reducible exact q) | (with_reducible refine BlkP.Blk.drew ?_) | (with_reducible refine BlkP.Blk.drewN ?_ _) | (with_reducible refine BlkP.Blk.setAt (us:=?_) (by first | omega | (simp; done) | (simp; omega)) rfl ?_ ?_) | (with_reducible refine BlkP.Blk.otherAt ?_ (by first | omega | (simp; done) | (simp; omega))) | (with_reducible refine BlkP.Blk.newA' (by first | omega | (simp; done) | (simp; omega)) rfl) | (with_reducible refine BlkP.Blk.alloc ?_ _) | (exact rfl)))
   rintro W3 ⟨hb3,hfm3,hc3,ho3⟩
   obtain ⟨ob,hob⟩:∃ ob,W2.heap.size = ob:=⟨_,rfl⟩
   rw [hob] at ho3 ⊢
   have HOBN:=Lib.hid (show ob ≠ gC∧ob ≠ f.F∧w.heap.size≤ob from by
    have h1:=HFM2.out.blk.lt
    have h2:=(HOC2.out.ge gC rfl).2
    have h3:=HB2.out.size
    rw [HF1.out.1] at h1
    omega)
   have HB3:=Lib.hid hb3
   have HFM3:=Lib.hid hfm3
   have HC3:=Lib.hid hc3
   have HO3:=Lib.hid ho3
   have hcF:W3.cell? ⟨f.F,6,none⟩ = some (.slice (some ⟨gC,0,none⟩) 784 cC):=by
    have q:=hfm3.blk.cell (i:=6) (v:=f2.vC) rfl
    rwa [HF2.out.1,HF2.out.2.1] at q
   have HCF:=Lib.hid hcF
   have HOC3:=Lib.hid (show RowG.Own enc2 TC W3 0 (.slice (some ⟨gC,0,none⟩) 784 cC) f2.cs from HF2.out.2.1 ▸ hfm3.cs)
   have hwg:w.heap.size ≠ gC:=by have:=HF0.out; omega
   have hog:=HOBN.out.1
   clear hb3 hfm3 hc3 ho3 hcF hob HW3 HOC HOC2 HFM2 HC2 HO2 HLS
   refine wp_region_noPanic ?_
   refine wp_region_held_drew (S:=fun Xw=>Xw.cell? ⟨f.F,6,none⟩ = some (.slice (some ⟨gC,0,none⟩) 784 cC)∧Blk Xw w.heap.size TC [.int .u8 k,.int .u8 l]) (by kernel_rfl) (⟨HCF.out,HC3.out⟩) (fun hHeld=>?_)
   refine wpAnyH_take (i:=0) (oi:=⟨some 43,_,_,_,_,_⟩) (v:=.pointer (some ⟨f.F,0,none⟩)) rfl (by kernel_rfl) (by kernel_rfl) (by kernel_rfl) (fun _ _ _ h=>h) (Or.inl ⟨by rfl,fun Xw hSW=>by go_simp⟩) hHeld ?_
   simp only [Act.put,List.setIfInBounds_toArray,List.set_cons_zero,List.set_cons_succ]
   refine wpAnyH_take (i:=1) (oi:=⟨some 44,_,_,_,_,_⟩) (v:=.pointer (some ⟨f.F,0,none⟩)) rfl (by kernel_rfl) (by kernel_rfl) (by kernel_rfl) (fun _ _ _ h=>h) (Or.inl ⟨by rfl,fun Xw hSW=>by go_simp⟩) hHeld ?_
   simp only [Act.put,List.setIfInBounds_toArray,List.set_cons_zero,List.set_cons_succ]
   refine wpAnyH_take (i:=2) (oi:=⟨some 45,_,_,_,_,_⟩) (v:=.pointer (some ⟨f.F,3,none⟩)) rfl (by kernel_rfl) (by kernel_rfl) (by kernel_rfl) (fun _ _ _ h=>h) (Or.inl ⟨by rfl,fun Xw hSW=>by go_simp⟩) hHeld ?_
   simp only [Act.put,List.setIfInBounds_toArray,List.set_cons_zero,List.set_cons_succ]
   refine wpAnyH_take (i:=3) (oi:=⟨some 46,_,_,_,_,_⟩) (v:=.pointer (some ⟨f.F,6,none⟩)) rfl (by kernel_rfl) (by kernel_rfl) (by kernel_rfl) (fun _ _ _ h=>h) (Or.inl ⟨by rfl,fun Xw hSW=>by go_simp⟩) hHeld ?_
   simp only [Act.put,List.setIfInBounds_toArray,List.set_cons_zero,List.set_cons_succ]
   refine wpAnyH_take (i:=4) (oi:=⟨some 47,_,_,_,_,_⟩) (v:=.slice (some ⟨gC,0,none⟩) 784 cC) rfl (by kernel_rfl) (by kernel_rfl) (by kernel_rfl) (fun _ _ _ h=>h) (Or.inl ⟨by rfl,fun Xw hSW=>by have q:=hSW.1; go_simp⟩) hHeld ?_
   simp only [Act.put,List.setIfInBounds_toArray,List.set_cons_zero,List.set_cons_succ]
   refine wpAnyH_take (i:=5) (oi:=⟨some 48,_,_,_,_,_⟩) (v:=.int .i64 (i:Int)) rfl (by kernel_rfl) (by kernel_rfl) (by kernel_rfl) (fun _ _ _ h=>h) (Or.inl ⟨by rfl,fun Xw hSW=>by go_simp⟩) hHeld ?_
   simp only [Act.put,List.setIfInBounds_toArray,List.set_cons_zero,List.set_cons_succ]
   refine wpAnyH_take (i:=6) (oi:=⟨some 49,_,_,_,_,_⟩) (v:=.agg #[.int .u8 k,.int .u8 l]) rfl (by kernel_rfl) (by kernel_rfl) (by kernel_rfl) (fun _ _ _ h=>h) (Or.inl ⟨by rfl,fun Xw hSW=>by have a0:=hSW.2.cell (i:=0) rfl; have a1:=hSW.2.cell (i:=1) rfl; go_simp⟩) hHeld ?_
   simp only [Act.put,List.setIfInBounds_toArray,List.set_cons_zero,List.set_cons_succ]
   refine wpAnyH_take (i:=7) (oi:=⟨some 50,_,_,_,_,_⟩) (v:=.pointer (some ⟨gC,i * 2,none⟩)) rfl (by kernel_rfl) (by kernel_rfl) (by kernel_rfl) (fun _ _ _ h=>h) (Or.inl ⟨by rfl,fun Xw hSW=>by go_simp⟩) hHeld ?_
   simp only [Act.put,List.setIfInBounds_toArray,List.set_cons_zero,List.set_cons_succ]
   refine wpAnyH_ready (rs:=[8]) (by kernel_rfl) (by simp) ?_
   refine AllReadyH.cons (o:=⟨none,_,_,_,_,_⟩) rfl (fun K hK=>?_) AllReadyH.nil
   have g0:W3.cell? ⟨gC,i * 2,none⟩ = some (.int .u8 (o1:Int)):=HOC3.out.cell (j:=0) HOA.out rfl
   have g1:W3.cell? ⟨gC,i * 2 + 1,none⟩ = some (.int .u8 (o2:Int)):=HOC3.out.cell (j:=1) HOA.out rfl
   have z0:=HOC3.out.frozen (i * 2)
   have z1:=HOC3.out.frozen (i * 2 + 1)
   go_simp
   refine hK.out _ _ (⟨by have q:=HCF.out; (repeat' (first | (with_reducible assumption) | (with_reducible refine HeldP.c_drew ?_) | (with_reducible refine HeldP.c_drewN ?_) | (with_reducible refine HeldP.c_same (by omega) ?_) | (with_reducible refine HeldP.c_other ?_ ?_) | (with_reducible refine HeldP.c_new (by first | omega | (simp; done) | (simp; omega)) ?_) | (with_reducible refine HeldP.c_alloc ?_ ?_) | (with_reducible refine HeldP.e_drew ?_) | (with_reducible refine HeldP.e_drewN ?_) | (with_reducible refine HeldP.e_set ?_) | (with_reducible refine HeldP.e_new (by first | omega | (simp; done) | (simp; omega)) ⟨_,rfl⟩) | (with_reducible refine HeldP.e_alloc ?_ ?_) | (with_reducible refine HeldP.f_drew ?_) | (with_reducible refine HeldP.f_drewN ?_) | (with_reducible refine HeldP.f_set ?_) | (with_reducible refine HeldP.f_new (by first | omega | (simp; done) | (simp; omega))) | (with_reducible refine HeldP.f_alloc ?_ ?_) | (with_reducible refine HeldP.s_drew ?_) | (with_reducible refine HeldP.s_drewN ?_) | (with_reducible refine HeldP.s_set ?_) | (with_reducible refine HeldP.s_new (by first | omega | (simp; done) | (simp; omega))) | (with_reducible refine HeldP.s_alloc ?_) | (with_reducible exact ⟨_,by assumption⟩) | omega | (intro e; simp at e; done) | (intro e; simp at e; omega) | (exact rfl) | (simp; done) | (simp; omega))),by have q:=HC3.out; (repeat' (first | (with_reducible exact q) | (with_reducible refine BlkP.Blk.drew ?_) | (with_reducible refine BlkP.Blk.drewN ?_ _) | (with_reducible refine BlkP.Blk.setAt (us:=?_) (by first | omega | (simp; done) | (simp; omega)) rfl ?_ ?_) | (with_reducible refine BlkP.Blk.otherAt ?_ (by first | omega | (simp; done) | (simp; omega))) | (with_reducible refine BlkP.Blk.newA' (by first | omega | (simp; done) | (simp; omega)) rfl) | (with_reducible refine BlkP.Blk.alloc ?_ _) | (exact rfl)))⟩) (fun hHeld=>?_)
   clear hK K
   refine wpAnyH_done (by kernel_rfl) ?_ _
   refine NoPanic.normal ?_
   clear hHeld
   have hput:=FldM.putM HFM3.out HF2.out.2.1 HOA.out k l
   refine HeldP.then_named (S:=fun W=>Below w.heap.size w W∧FldM W (f2.put i (k,l))∧Blk W ob TC [.int .u8 o1,.int .u8 o2]) ⟨HB3.out.trans ?_,hput.1.below (by (repeat' (first | (with_reducible exact Below.refl _ _) | (with_reducible refine Below.setCell ?_ (by (first | omega | (simp; done) | (simp; omega))) _) | (with_reducible refine Below.alloc ?_ (by (first | omega | (simp; done) | (simp; omega))) _) | (with_reducible refine Below.drew ?_) | (with_reducible refine below_drewN ?_ _)))),?_⟩ ?_
   ·have h1:=HF0.out
    have h2:w.heap.size≤gC:=by omega
    (repeat' (first | (with_reducible exact Below.refl _ _) | (with_reducible refine Below.setCell ?_ (by (first | omega | (simp; done) | (simp; omega))) _) | (with_reducible refine Below.alloc ?_ (by (first | omega | (simp; done) | (simp; omega))) _) | (with_reducible refine Below.drew ?_) | (with_reducible refine below_drewN ?_ _)))
   ·have q:=HO3.out
    (repeat' (first | (with_reducible exact q) | (with_reducible refine BlkP.Blk.drew ?_) | (with_reducible refine BlkP.Blk.drewN ?_ _) | (with_reducible refine BlkP.Blk.setAt (us:=?_) (by first | omega | (simp; done) | (simp; omega)) rfl ?_ ?_) | (with_reducible refine BlkP.Blk.otherAt ?_ (by first | omega | (simp; done) | (simp; omega))) | (with_reducible refine BlkP.Blk.newA' (by first | omega | (simp; done) | (simp; omega)) rfl) | (with_reducible refine BlkP.Blk.alloc ?_ _) | (exact rfl)))
   rintro W4 ⟨hb4,hfm4,ho4⟩
   clear hput
   obtain ⟨f3,hf3⟩:∃ f3,f2.put i (k,l) = f3:=⟨_,rfl⟩
   have hpl:=HOV2.out.plcx hy
   rw [HI.out] at hpl
   have HOLD:=Lib.hid (hf3 ▸ old_put HOV2.out.c HRL2.out hpl.1 HOA.out hk)
   have HF3:=Lib.hid (show f3.F = f.F∧(f3.vA = .slice none 0 0∧f3.vT = .slice none 0 0)∧f3.ak = []∧f3.ts = []∧plc f3 i = plc f2 i∧f3.vL = f2.vL from by
    rw [← hf3]
    exact ⟨HF2.out.1,⟨HF2.out.2.2.1,HF2.out.2.2.2.1⟩,HF2.out.2.2.2.2.1,HF2.out.2.2.2.2.2.1,rfl,rfl⟩)
   have HC4F:=Lib.hid (show FldC f3 from hf3 ▸ put_c HOV2.out.c hk)
   have HI3:=Lib.hid (show i < f3.X * f3.Y * f3.Z from hf3 ▸ hpl.1)
   rw [hf3] at hfm4
   have HFE:=Lib.hid hf3
   have HB4:=Lib.hid hb4
   have HFM4:=Lib.hid hfm4
   have HO4:=Lib.hid ho4
   clear hb4 hfm4 ho4 hf3 hpl HFM3 HC3 HO3 HCF HOC3
   go_wp2_with fail
   refine wp_region_noPanic ?_
   refine wp_region_held_drew (S:=fun Xw=>Blk Xw ob TC [.int .u8 o1,.int .u8 o2]) (by kernel_rfl) (HO4.out) (fun hHeld=>?_)
   refine wpAnyH_take (i:=0) (oi:=⟨some 51,_,_,_,_,_⟩) (v:=.pointer (some ⟨f.F,0,none⟩)) rfl (by kernel_rfl) (by kernel_rfl) (by kernel_rfl) (fun _ _ _ h=>h) (Or.inl ⟨by rfl,fun Xw hSW=>by go_simp⟩) hHeld ?_
   simp only [Act.put,List.setIfInBounds_toArray,List.set_cons_zero,List.set_cons_succ]
   refine wpAnyH_take (i:=1) (oi:=⟨some 52,_,_,_,_,_⟩) (v:=(.iface 29 (.pointer (some ⟨f.F,0,none⟩)))) rfl (by kernel_rfl) (by kernel_rfl) (by kernel_rfl) (fun _ _ _ h=>h) (Or.inl ⟨by rfl,fun Xw hSW=>by go_simp⟩) hHeld ?_
   simp only [Act.put,List.setIfInBounds_toArray,List.set_cons_zero,List.set_cons_succ]
   refine wpAnyH_take (i:=2) (oi:=⟨some 53,_,_,_,_,_⟩) (v:=.pointer (some ⟨f.F,0,none⟩)) rfl (by kernel_rfl) (by kernel_rfl) (by kernel_rfl) (fun _ _ _ h=>h) (Or.inl ⟨by rfl,fun Xw hSW=>by go_simp⟩) hHeld ?_
   simp only [Act.put,List.setIfInBounds_toArray,List.set_cons_zero,List.set_cons_succ]
   refine wpAnyH_take (i:=3) (oi:=⟨some 54,_,_,_,_,_⟩) (v:=.int .i64 (i:Int)) rfl (by kernel_rfl) (by kernel_rfl) (by kernel_rfl) (fun _ _ _ h=>h) (Or.inl ⟨by rfl,fun Xw hSW=>by go_simp⟩) hHeld ?_
   simp only [Act.put,List.setIfInBounds_toArray,List.set_cons_zero,List.set_cons_succ]
   refine wpAnyH_take (i:=5) (oi:=⟨some 56,_,_,_,_,_⟩) (v:=.agg #[.int .u8 o1,.int .u8 o2]) rfl (by kernel_rfl) (by kernel_rfl) (by kernel_rfl) (fun _ _ _ h=>h) (Or.inl ⟨by rfl,fun Xw hSW=>by have a0:=hSW.cell (i:=0) rfl; have a1:=hSW.cell (i:=1) rfl; go_simp⟩) hHeld ?_
   simp only [Act.put,List.setIfInBounds_toArray,List.set_cons_zero,List.set_cons_succ]
   refine wpAnyH_ready (rs:=[4]) (by kernel_rfl) (by simp) ?_
   refine AllReadyH.cons (o:=⟨some 55,_,_,_,_,_⟩) rfl (fun K hK=>?_) AllReadyH.nil
   go_simp
   have hat:=at_c (HFM4.out.below (Below.refl _ _).drew) HC4F.out HI3.out
   rw [HF3.out.1] at hat
   refine hat.mono ?_
   rintro e W5 ⟨rfl,hb5⟩
   have HB5:=Lib.hid ((show Below W4.heap.size W4 W4.drew by (repeat' (first | (with_reducible exact Below.refl _ _) | (with_reducible refine Below.setCell ?_ (by (first | omega | (simp; done) | (simp; omega))) _) | (with_reducible refine Below.alloc ?_ (by (first | omega | (simp; done) | (simp; omega))) _) | (with_reducible refine Below.drew ?_) | (with_reducible refine below_drewN ?_ _)))).trans hb5)
   clear hat hb5
   try go_wp2_with fail
   refine hK.out _ _ (HO4.out.below HB5.out) (fun hHeld=>?_)
   clear hK K
   refine wpAnyH_ready (rs:=[6]) (by kernel_rfl) (by simp) ?_
   refine AllReadyH.cons (o:=⟨some 57,_,_,_,_,_⟩) rfl (fun K hK=>?_) AllReadyH.nil
   go_simp
   have hchg:=change_c (HFM4.out.below HB5.out) HOLD.out (HT.out.below (HB4.out.trans (HB5.out.mono HB4.out.size))) (by rw [HF3.out.2.2.1]; decide) (by rw [HF3.out.2.2.2.1]; decide) (fun hs=>by
    rcases hs with e | e | e | e
    ·rw [HF3.out.1] at e
     have:=HF0.out
     omega
    ·rw [HF3.out.2.1.1] at e
     cases e
    ·rw [HF3.out.2.1.2] at e
     cases e
    ·rw [HF3.out.2.2.2.2.2] at e
     have:=HF2.out.2.2.2.2.2.2.2 _ e
     omega)
   rw [HF3.out.1,← HF3.out.2.2.2.2.1] at hchg
   refine hchg.mono ?_
   clear hchg
   rintro e W6 ⟨T,f4,rfl,hch⟩
   have HCH:=Lib.hid hch
   have HB6:=Lib.hid (show Below w.heap.size w W6 from (HB4.out.trans (HB5.out.mono HB4.out.size)).trans (hch.fr.toBelow (Nat.le_trans HB4.out.size HB5.out.size) (fun i hs=>by
    rcases hs with e | e | e | e
    ·rw [HF3.out.1] at e
     have:=HF0.out
     omega
    ·rw [HF3.out.2.1.1] at e
     cases e
    ·rw [HF3.out.2.1.2] at e
     cases e
    ·rw [HF3.out.2.2.2.2.2] at e
     exact HF2.out.2.2.2.2.2.2.2 _ e)))
   have HO6:=Lib.hid (show Blk W6 ob TC [.int .u8 o1,.int .u8 o2] from hch.fr.blk (HO4.out.below HB5.out) (fun hs=>by
    rcases hs with e | e | e | e
    ·rw [HF3.out.1] at e
     exact HOBN.out.2.1 e
    ·rw [HF3.out.2.1.1] at e
     cases e
    ·rw [HF3.out.2.1.2] at e
     cases e
    ·obtain ⟨us,hu⟩:=own_cells (HFM4.out.below HB5.out).ls e
     exact Blk.ne (HO4.out.below HB5.out) hu (by decide) rfl))
   clear hch
   try go_wp2_with fail
   refine hK.out _ _ (HO6.out) (fun hHeld=>?_)
   clear hK K
   refine wpAnyH_take (i:=7) (oi:=⟨some 10,_,_,_,_,_⟩) (v:=.int .i64 (T.length:Nat)) rfl (by kernel_rfl) (by kernel_rfl) (by kernel_rfl) (fun _ _ _ h=>h) (Or.inl ⟨by rfl,fun Xw hSW=>by go_simp⟩) hHeld ?_
   simp only [Act.put,List.setIfInBounds_toArray,List.set_cons_zero,List.set_cons_succ]
   refine wpAnyH_done (by kernel_rfl) ?_ _
   refine NoPanic.normal ?_
   clear hHeld
   refine HeldP.then_named (S:=fun W=>Below W6.heap.size W6 W) (by (repeat' (first | (with_reducible exact Below.refl _ _) | (with_reducible refine Below.setCell ?_ (by (first | omega | (simp; done) | (simp; omega))) _) | (with_reducible refine Below.alloc ?_ (by (first | omega | (simp; done) | (simp; omega))) _) | (with_reducible refine Below.drew ?_) | (with_reducible refine below_drewN ?_ _)))) ?_
   rintro W7 hb7
   have HFM7:=Lib.hid (HCH.out.fld.below hb7)
   have HB7:=Lib.hid (show Below w.heap.size w W7 from HB6.out.trans (hb7.mono HB6.out.size))
   obtain ⟨vA4,vT4,l4,ef4,_,_⟩:=HCH.out.f_
   have HF4:=Lib.hid (show f4.F = f.F∧f4.ls = rightL f3∧f4.X = f3.X∧f4.Y = f3.Y∧f4.Z = f3.Z∧f4.lo = f3.lo from by
    rw [ef4]
    exact ⟨HF3.out.1,rfl,rfl,rfl,rfl,rfl⟩)
   have HCO:=Lib.hid (show ∀ j,j < 16→∃ a b,(colL f3)[j]? = some (a,b)∧f4.ls[49 * j + 24]? = some (a,b) from fun j hj=>by
    have hp:=HOV2.out.plcx hj
    have e3:plc f3 (49 * j + 24) = (3,48 + (j:Int),3):=by rw [← HFE.out]; exact hp.2
    have h3:49 * j + 24 < f3.X * f3.Y * f3.Z:=by rw [← HFE.out]; exact hp.1
    refine ⟨litV f3 (rightL f3) false (3,48 + (j:Int),3),litV f3 (rightL f3) true (3,48 + (j:Int),3),?_,?_⟩
    ·unfold colL
     rw [List.getElem?_map,List.getElem?_range hj]
     rfl
    ·rw [HF4.out.2.1,right_get2 HC4F.out h3,e3])
   have HLL:=Lib.hid (show (colL f3).length = 16 from by simp [colL])
   have HL4:=Lib.hid (show f4.ls.length = 784 from by
    have h1:=HOV2.out.x
    have h2:=HOV2.out.y
    have h3:=HOV2.out.z
    rw [HF4.out.2.1,rightL_len,← HFE.out]
    show f2.X * f2.Y * f2.Z = 784
    rw [h1,h2,h3])
   obtain ⟨AL,cL,hvL,_,_,hAL⟩:=HFM7.out.ls.form HL4.out
   obtain ⟨gL,rfl,_,hgL⟩:=hAL (by omega)
   have HVL:=Lib.hid hvL
   clear hb7 ef4 hvL hAL
   go_wp2_with fail
   go_loopw [11,12] (fun v11 v12 wr=>∃ j:Nat,v12 = .int .i64 (j:Nat)∧j≤16∧RowG.Own enc2 TL wr W7.heap.size v11 ((colL f3).take j)∧Below W7.heap.size W7 wr) (fun _ v _=>16 - (intOf v).toNat)
   case atStart=>exact ⟨0,rfl,by omega,Own.nil _ _ _ _,Below.refl _ _⟩
   case round =>
    obtain ⟨j2,rfl,hj2,hrow,hbe⟩:=hrel
    have HROW:=Lib.hid hrow
    have HBE:=Lib.hid hbe
    by_cases hjl:j2 < 16
    ·have hjlI:(j2:Int) < 16:=by omega
     obtain ⟨a,b,hca,hla⟩:=HCO.out j2 hjl
     have HCA:=Lib.hid hca
     obtain ⟨ln,hln⟩:∃ ln,((colL f3).take j2).length = ln:=⟨_,rfl⟩
     have HLN:=Lib.hid hln
     have HLNE:=Lib.hid (show ln≤16 by rw [← hln,List.length_take,HLL.out]; omega)
     obtain ⟨A9,c9,hv9,_,_,_⟩:=hrow.form hln
     subst hv9
     have hfm:=HFM7.out.below hbe
     have k7:wr.cell? ⟨f.F,7,none⟩ = some (.slice (some ⟨gL,0,none⟩) 784 cL):=by
      have q:=hfm.blk.cell (i:=7) (v:=f4.vL) rfl
      rwa [HF4.out.1,HVL.out] at q
     have hol:RowG.Own enc2 TL wr 0 (.slice (some ⟨gL,0,none⟩) 784 cL) f4.ls:=HVL.out ▸ hfm.ls
     obtain ⟨t,ht⟩:∃ t,49 * j2 + 24 = t:=⟨_,rfl⟩
     rw [ht] at hla
     have n1:(49:Int) * (j2:Int) + 24 = (t:Int):=by omega
     have htI:(t:Int) < 784:=by omega
     have htN:t < 784:=by omega
     have l0:wr.cell? ⟨gL,t * 2,none⟩ = some (.int .u8 (a:Int)):=hol.cell (j:=0) hla rfl
     have l1:wr.cell? ⟨gL,t * 2 + 1,none⟩ = some (.int .u8 (b:Int)):=hol.cell (j:=1) hla rfl
     have HWR:=Lib.hid (show wrap64 ((j2:Int) + 1) = ((j2 + 1:Nat):Int) by rw [wr64 (by omega) (by omega)]; omega)
     clear hca hla hln hfm hol ht hrow hbe
     go_wp2_with ((with_reducible refine at_slot 73 ?_); refine Classical.byContradiction (fun hG=>?_))
     refine hG ?_
     clear hG
     refine wp_pushLt (w0:=wr) (y:=(a,b)) (v:=.slice A9 ln c9) (l:=(colL f3).take j2) rfl (.tmp 62) (.tmp 72) rfl rfl rfl rfl HROW.out rfl HLN.out (by have:=HLNE.out; omega) HBE.out.size ?_
     intro g5 c5 W8 hpu
     have HPU:=Lib.hid hpu
     clear hpu
     go_wp2_with fail
     go_roundw
     case rel =>
      refine ⟨j2 + 1,by first | rfl | rw [HWR.out] | (congr 1; omega),by omega,?_,HBE.out.trans ((Below.refl _ _).grown HPU.out.2.1 HBE.out.size (fun k hk=>(HROW.out.ge k hk).1))⟩
      rw [List.take_add_one,HCA.out]
      exact HPU.out.1
     case measure =>
      simp only [intOf]
      omega
    ·have hje2:j2 = 16:=by omega
     have hjlI:¬ (j2:Int) < 16:=by omega
     obtain ⟨A9,c9,hv9,_,_,_⟩:=hrow.form (n:=16) (by rw [List.length_take,HLL.out,hje2]; rfl)
     subst hv9
     clear hrow hbe
     have HJ:=Lib.hid hje2
     clear hje2
     go_wp2_with fail
     go_ret2
     refine ⟨f2,T,.slice A9 16 c9,rfl,HOV2.out,HRL2.out,HCH.out.dup,fun q=>?_,?_,HB7.out.trans (HBE.out.mono HB7.out.size)⟩
     ·rw [HI.out,HFE.out]
      exact HCH.out.mem q
     ·rw [HI.out,HFE.out]
      have q:=HROW.out
      rw [HJ.out,List.take_of_length_le (by rw [HLL.out]; exact Nat.le_refl _)] at q
      exact q.mono HB7.out.size
end FloodW
end Go.Proofs.YtpimkdaikoclnaaDoor
namespace Go.Proofs.YtpimkdaikoclnaaDoor
open Go.RowKit
set_option linter.unusedVariables false
set_option linter.unusedSimpArgs false
namespace FloodW
open BlkP RowG GlowW FloodP
def lampK (k:Nat):Prop:=k = 11 ∨ k = 14
def darkK (k:Nat):Prop:=(0 < k∧k < 9) ∨ k = 10
set_option maxRecDepth 100000 in
set_option maxHeartbeats 4000000 in
theorem lamp_c {w:World} {k l:Nat} {r:Bool} (h:r = true↔lampK k):Calls Tryd.prog 14 #[.agg #[.int .u8 k,.int .u8 l]] w fun e w'=>e = .returned (.bool r)∧Below w.heap.size w w':=by
 unfold lampK at h
 by_cases h1:(k:Int) = 11
 ·obtain rfl:r = true:=h.2 (.inl (by omega))
  go_enter Tryd.func14,Tryd.ntmps14
  go_wp2_with fail
  go_ret
  exact ⟨rfl,by (repeat' (first | (with_reducible exact Below.refl _ _) | (with_reducible refine Below.setCell ?_ (by (first | omega | (simp; done) | (simp; omega))) _) | (with_reducible refine Below.alloc ?_ (by (first | omega | (simp; done) | (simp; omega))) _) | (with_reducible refine Below.drew ?_) | (with_reducible refine below_drewN ?_ _)))⟩
 ·have HE:=Lib.hid (show ((k:Int) == 11 || (k:Int) == 14) = r from by
   rw [Bool.eq_iff_iff,h,Bool.or_eq_true,beq_iff_eq,beq_iff_eq]
   omega)
  clear h
  go_enter Tryd.func14,Tryd.ntmps14
  go_wp2_with fail
  go_ret
  exact ⟨congrArg (fun b=>Ending.returned (.bool b)) HE.out,by (repeat' (first | (with_reducible exact Below.refl _ _) | (with_reducible refine Below.setCell ?_ (by (first | omega | (simp; done) | (simp; omega))) _) | (with_reducible refine Below.alloc ?_ (by (first | omega | (simp; done) | (simp; omega))) _) | (with_reducible refine Below.drew ?_) | (with_reducible refine below_drewN ?_ _)))⟩
set_option maxRecDepth 100000 in
set_option maxHeartbeats 4000000 in
theorem dark_c {w:World} {k l:Nat} {r:Bool} (h:r = true↔darkK k):Calls Tryd.prog 15 #[.agg #[.int .u8 k,.int .u8 l]] w fun e w'=>e = .returned (.bool r)∧Below w.heap.size w w':=by
 unfold darkK at h
 by_cases h0:0 < k
 ·have h0i:(0:Int) < (k:Int):=by omega
  by_cases h9:k < 9
  ·have h9i:(k:Int) < 9:=by omega
   obtain rfl:r = true:=h.2 (.inl ⟨h0,h9⟩)
   go_enter Tryd.func15,Tryd.ntmps15
   go_wp2_with fail
   go_ret
   exact ⟨rfl,by (repeat' (first | (with_reducible exact Below.refl _ _) | (with_reducible refine Below.setCell ?_ (by (first | omega | (simp; done) | (simp; omega))) _) | (with_reducible refine Below.alloc ?_ (by (first | omega | (simp; done) | (simp; omega))) _) | (with_reducible refine Below.drew ?_) | (with_reducible refine below_drewN ?_ _)))⟩
  ·have h9i:¬ (k:Int) < 9:=by omega
   by_cases h2:k = 10
   ·subst h2
    obtain rfl:r = true:=h.2 (.inr rfl)
    go_enter Tryd.func15,Tryd.ntmps15
    go_wp2_with fail
    go_ret
    exact ⟨rfl,by (repeat' (first | (with_reducible exact Below.refl _ _) | (with_reducible refine Below.setCell ?_ (by (first | omega | (simp; done) | (simp; omega))) _) | (with_reducible refine Below.alloc ?_ (by (first | omega | (simp; done) | (simp; omega))) _) | (with_reducible refine Below.drew ?_) | (with_reducible refine below_drewN ?_ _)))⟩
   ·have h2i:((k:Int) == 10) = false:=beq_eq_false_iff_ne.2 (by omega)
    have HE:=Lib.hid h2i
    clear h2i
    obtain rfl:r = false:=Bool.eq_false_iff.2 (fun e=>by rcases h.1 e with q | q <;> omega)
    go_enter Tryd.func15,Tryd.ntmps15
    go_wp2_with fail
    go_ret
    exact ⟨congrArg (fun b=>Ending.returned (.bool b)) HE.out,by (repeat' (first | (with_reducible exact Below.refl _ _) | (with_reducible refine Below.setCell ?_ (by (first | omega | (simp; done) | (simp; omega))) _) | (with_reducible refine Below.alloc ?_ (by (first | omega | (simp; done) | (simp; omega))) _) | (with_reducible refine Below.drew ?_) | (with_reducible refine below_drewN ?_ _)))⟩
 ·have h0i:¬ (0:Int) < (k:Int):=by omega
  by_cases h2:k = 10
  ·omega
  have HE:=Lib.hid (show ((k:Int) == 10) = false from beq_eq_false_iff_ne.2 (by omega))
  obtain rfl:r = false:=Bool.eq_false_iff.2 (fun e=>by rcases h.1 e with q | q <;> omega)
  go_enter Tryd.func15,Tryd.ntmps15
  go_wp2_with fail
  go_ret
  exact ⟨congrArg (fun b=>Ending.returned (.bool b)) HE.out,by (repeat' (first | (with_reducible exact Below.refl _ _) | (with_reducible refine Below.setCell ?_ (by (first | omega | (simp; done) | (simp; omega))) _) | (with_reducible refine Below.alloc ?_ (by (first | omega | (simp; done) | (simp; omega))) _) | (with_reducible refine Below.drew ?_) | (with_reducible refine below_drewN ?_ _)))⟩
set_option maxRecDepth 100000 in
set_option maxHeartbeats 8000000 in
theorem lmade_c {w:World} {p:V} {x y z:Int} {A:Option Addr} {m c:Nat} {cl:List (Nat × Nat)} (hR:Rd enc2 w (.slice A m c) cl) (hm:cl.length = m) (hc8:∀ c ∈ cl,c.1 < 256∧c.2 < 256) :
  Calls Tryd.prog 7 #[.agg #[.int .i64 p.1,.int .i64 p.2.1,.int .i64 p.2.2,.int .i64 x,.int .i64 y,.int .i64 z,.slice A m c]] w (MadeP w x y z p cl):=by
 have HR:=Lib.hid hR
 have HM:=Lib.hid hm
 have HC8:=Lib.hid hc8
 clear hR hm hc8
 go_enter Tryd.func7,Tryd.ntmps7
 go_wp2_with fail
 go_at_call 10
 refine calls_named (S:=fun W=>Below w.heap.size w W) (by (repeat' (first | (with_reducible exact Below.refl _ _) | (with_reducible refine Below.setCell ?_ (by (first | omega | (simp; done) | (simp; omega))) _) | (with_reducible refine Below.alloc ?_ (by (first | omega | (simp; done) | (simp; omega))) _) | (with_reducible refine Below.drew ?_) | (with_reducible refine below_drewN ?_ _)))) ?_
 rintro W1 hb1
 refine (made_c (HR.out.below hb1) HM.out HC8.out).mono ?_
 rintro e W2 ⟨f,rfl,hmk⟩
 have HMK:=Lib.hid hmk
 have HB1:=Lib.hid hb1
 clear hmk hb1
 go_wp2_with fail
 go_ret
 refine ⟨f,rfl,?_⟩
 obtain ⟨a1,a2,a3,a4,a5,a6,a7,a8,a9,a10,a11,a12,a13,a14⟩:=HMK.out
 exact ⟨a1,a2,a3,a4,a5,a6,a7,a8,a9,a10,a11,fun k hk=>Nat.le_trans HB1.out.size (a12 k hk),a13,HB1.out.trans (a14.mono HB1.out.size)⟩
abbrev TE:TypeId:=35
def EditedP (w:World) (f:Fld) (e:Ending) (w':World):Prop:=∃ (i o1 o2 c1 c2:Nat),i < f.X * f.Y * f.Z∧(c1 < 256∧c2 < 256)∧f.cs[i]? = some (o1,o2)∧e = .returned (.tuple #[.agg #[.int .i64 ((plc f i).1),.int .i64 ((plc f i).2.1),.int .i64 ((plc f i).2.2)],.agg #[.int .u8 o1,.int .u8 o2]])∧FldM w' (f.put i (c1,c2))∧Fr (fun k=>f.vC.ownBlock = some k) w w'
set_option maxRecDepth 100000 in
set_option maxHeartbeats 16000000 in
theorem edited_c {w:World} {f:Fld} {ea:Int} {k l:Nat} (h:FldM w f) (hW:FldC f) (hk:k < 256∧l < 256):Calls Tryd.prog 12 #[.pointer (some ⟨f.F,0,none⟩),.agg #[.int .i64 ea,.int .u8 k,.int .u8 l]] w (EditedP w f):=by
 have HW:=Lib.hid hW
 have HK:=Lib.hid hk
 obtain ⟨n,hn⟩:∃ n,f.X * f.Y * f.Z = n:=⟨_,rfl⟩
 have hnb:=hW.n
 rw [hn] at hnb
 have HN:=Lib.hid hn
 have HL:=Lib.hid (show f.cs.length = n by rw [hW.cs,hn])
 obtain ⟨A,cC,hvC,_,_,hAC⟩:=h.cs.form (n:=n) HL.out
 obtain ⟨gC,rfl,_,_⟩:=hAC (by omega)
 have HVC:=Lib.hid hvC
 have H:=Lib.hid h
 have HFG:=Lib.hid (show f.F ≠ gC from fun e=>by
  obtain ⟨us,hu⟩:=own_cells h.cs (g:=gC) (by rw [hvC]; rfl)
  exact Blk.ne h.blk hu (by decide) e)
 have HLT:=Lib.hid (show f.F < w.heap.size∧gC < w.heap.size from ⟨h.blk.lt,(h.cs.ge gC (by rw [hvC]; rfl)).2⟩)
 obtain ⟨a,ha⟩:∃ a:Nat,ea % 65536 = a:=⟨(ea % 65536).toNat,by omega⟩
 have e1:bits .and .i64 ea 65535 = (a:Int):=(BitsP.and_mask ea 16 (by omega)).trans ha
 obtain ⟨i,hi⟩:∃ i,a % n = i:=⟨_,rfl⟩
 have e2:(a:Int).tmod n = (i:Int):=remF hi
 have hin:i < n:=by rw [← hi]; exact Nat.mod_lt _ (by omega)
 have hiI:(i:Int) < n:=by omega
 have hn0:¬ (n:Int) = 0:=by omega
 have hn1:¬ (n:Int) = -1:=by omega
 have hn2:¬ n = 0:=by omega
 obtain ⟨⟨o1,o2⟩,ho⟩:∃ o,f.cs[i]? = some o:=⟨_,List.getElem?_eq_getElem (by rw [HL.out]; exact hin)⟩
 have HO:=Lib.hid ho
 clear h hW hk hn hvC hAC ha hi ho
 go_enter Tryd.func12,Tryd.ntmps12
 go_wp2_with fail
 obtain ⟨s,hs⟩:∃ s,w.heap.size = s:=⟨_,rfl⟩
 refine HeldP.wp_named (S:=fun W=>Below w.heap.size w W∧Blk W s TE [.int .i64 ea,.int .u8 k,.int .u8 l]∧Blk W (s + 1) TP [.int .i64 0,.int .i64 0,.int .i64 0]∧Blk W (s + 2) TC [.int .u8 0,.int .u8 0]∧W.heap.size = s + 3) ⟨by (repeat' (first | (with_reducible exact Below.refl _ _) | (with_reducible refine Below.setCell ?_ (by (first | omega | (simp; done) | (simp; omega))) _) | (with_reducible refine Below.alloc ?_ (by (first | omega | (simp; done) | (simp; omega))) _) | (with_reducible refine Below.drew ?_) | (with_reducible refine below_drewN ?_ _))),by subst hs; (repeat' (first | (with_reducible refine BlkP.Blk.drew ?_) | (with_reducible refine BlkP.Blk.drewN ?_ _) | (with_reducible refine BlkP.Blk.setAt (us:=?_) (by first | omega | (simp; done) | (simp; omega)) rfl ?_ ?_) | (with_reducible refine BlkP.Blk.otherAt ?_ (by first | omega | (simp; done) | (simp; omega))) | (with_reducible refine BlkP.Blk.newA' (by first | omega | (simp; done) | (simp; omega)) rfl) | (with_reducible refine BlkP.Blk.alloc ?_ _) | (exact rfl))),by subst hs; (repeat' (first | (with_reducible refine BlkP.Blk.drew ?_) | (with_reducible refine BlkP.Blk.drewN ?_ _) | (with_reducible refine BlkP.Blk.setAt (us:=?_) (by first | omega | (simp; done) | (simp; omega)) rfl ?_ ?_) | (with_reducible refine BlkP.Blk.otherAt ?_ (by first | omega | (simp; done) | (simp; omega))) | (with_reducible refine BlkP.Blk.newA' (by first | omega | (simp; done) | (simp; omega)) rfl) | (with_reducible refine BlkP.Blk.alloc ?_ _) | (exact rfl))),by subst hs; (repeat' (first | (with_reducible refine BlkP.Blk.drew ?_) | (with_reducible refine BlkP.Blk.drewN ?_ _) | (with_reducible refine BlkP.Blk.setAt (us:=?_) (by first | omega | (simp; done) | (simp; omega)) rfl ?_ ?_) | (with_reducible refine BlkP.Blk.otherAt ?_ (by first | omega | (simp; done) | (simp; omega))) | (with_reducible refine BlkP.Blk.newA' (by first | omega | (simp; done) | (simp; omega)) rfl) | (with_reducible refine BlkP.Blk.alloc ?_ _) | (exact rfl))),by simp; omega⟩ ?_
 rintro W1 ⟨hb1,he1,hp1,hc1,hz1⟩
 rw [hs]
 have HS:=Lib.hid hs
 have HLS:=Lib.hid (show f.F < s∧gC < s by have:=HLT.out; omega)
 have HB1:=Lib.hid hb1
 have HE1:=Lib.hid he1
 have HP1:=Lib.hid hp1
 have HC1:=Lib.hid hc1
 have HZ1:=Lib.hid hz1
 have HF1:=Lib.hid (H.out.below hb1)
 clear hb1 he1 hp1 hc1 hs hz1
 refine wp_region_noPanic ?_
 refine wp_region_held_drew (S:=fun Xw=>FldM Xw f∧Blk Xw s TE [.int .i64 ea,.int .u8 k,.int .u8 l]) (by kernel_rfl) (⟨HF1.out.below (Below.refl _ _).drew,HE1.out⟩) (fun hHeld=>?_)
 refine wpAnyH_take (i:=0) (oi:=⟨some 9,_,_,_,_,_⟩) (v:=.pointer (some ⟨s,0,none⟩)) rfl (by kernel_rfl) (by kernel_rfl) (by kernel_rfl) (fun _ _ _ h=>h) (Or.inl ⟨by rfl,fun Xw hSW=>by go_simp⟩) hHeld ?_
 simp only [Act.put,List.setIfInBounds_toArray,List.set_cons_zero,List.set_cons_succ]
 refine wpAnyH_take (i:=1) (oi:=⟨some 10,_,_,_,_,_⟩) (v:=.int .i64 ea) rfl (by kernel_rfl) (by kernel_rfl) (by kernel_rfl) (fun _ _ _ h=>h) (Or.inl ⟨by rfl,fun Xw hSW=>by have q:=hSW.2.cell (i:=0) rfl; go_simp⟩) hHeld ?_
 simp only [Act.put,List.setIfInBounds_toArray,List.set_cons_zero,List.set_cons_succ]
 refine wpAnyH_take (i:=2) (oi:=⟨some 11,_,_,_,_,_⟩) (v:=.int .i64 (a:Int)) rfl (by kernel_rfl) (by kernel_rfl) (by kernel_rfl) (fun _ _ _ h=>h) (Or.inl ⟨by rfl,fun Xw hSW=>by go_simp⟩) hHeld ?_
 simp only [Act.put,List.setIfInBounds_toArray,List.set_cons_zero,List.set_cons_succ]
 refine wpAnyH_take (i:=3) (oi:=⟨some 12,_,_,_,_,_⟩) (v:=.pointer (some ⟨f.F,0,none⟩)) rfl (by kernel_rfl) (by kernel_rfl) (by kernel_rfl) (fun _ _ _ h=>h) (Or.inl ⟨by rfl,fun Xw hSW=>by go_simp⟩) hHeld ?_
 simp only [Act.put,List.setIfInBounds_toArray,List.set_cons_zero,List.set_cons_succ]
 refine wpAnyH_take (i:=4) (oi:=⟨some 13,_,_,_,_,_⟩) (v:=.pointer (some ⟨f.F,0,none⟩)) rfl (by kernel_rfl) (by kernel_rfl) (by kernel_rfl) (fun _ _ _ h=>h) (Or.inl ⟨by rfl,fun Xw hSW=>by go_simp⟩) hHeld ?_
 simp only [Act.put,List.setIfInBounds_toArray,List.set_cons_zero,List.set_cons_succ]
 refine wpAnyH_take (i:=5) (oi:=⟨some 14,_,_,_,_,_⟩) (v:=.pointer (some ⟨f.F,3,none⟩)) rfl (by kernel_rfl) (by kernel_rfl) (by kernel_rfl) (fun _ _ _ h=>h) (Or.inl ⟨by rfl,fun Xw hSW=>by go_simp⟩) hHeld ?_
 simp only [Act.put,List.setIfInBounds_toArray,List.set_cons_zero,List.set_cons_succ]
 refine wpAnyH_take (i:=6) (oi:=⟨some 15,_,_,_,_,_⟩) (v:=.pointer (some ⟨f.F,6,none⟩)) rfl (by kernel_rfl) (by kernel_rfl) (by kernel_rfl) (fun _ _ _ h=>h) (Or.inl ⟨by rfl,fun Xw hSW=>by go_simp⟩) hHeld ?_
 simp only [Act.put,List.setIfInBounds_toArray,List.set_cons_zero,List.set_cons_succ]
 refine wpAnyH_take (i:=7) (oi:=⟨some 16,_,_,_,_,_⟩) (v:=.slice (some ⟨gC,0,none⟩) n cC) rfl (by kernel_rfl) (by kernel_rfl) (by kernel_rfl) (fun _ _ _ h=>h) (Or.inl ⟨by rfl,fun Xw hSW=>by have q:Xw.cell? ⟨f.F,6,none⟩ = some (.slice (some ⟨gC,0,none⟩) n cC):=(hSW.1.blk.cell (i:=6) (v:=f.vC) rfl).trans (congrArg some HVC.out); go_simp⟩) hHeld ?_
 simp only [Act.put,List.setIfInBounds_toArray,List.set_cons_zero,List.set_cons_succ]
 refine wpAnyH_take (i:=8) (oi:=⟨some 17,_,_,_,_,_⟩) (v:=.int .i64 (n:Int)) rfl (by kernel_rfl) (by kernel_rfl) (by kernel_rfl) (fun _ _ _ h=>h) (Or.inl ⟨by rfl,fun Xw hSW=>by go_simp⟩) hHeld ?_
 simp only [Act.put,List.setIfInBounds_toArray,List.set_cons_zero,List.set_cons_succ]
 refine wpAnyH_take (i:=9) (oi:=⟨some 18,_,_,_,_,_⟩) (v:=.int .i64 (i:Int)) rfl (by kernel_rfl) (by kernel_rfl) (by kernel_rfl) (fun _ _ _ h=>h) (Or.inl ⟨by rfl,fun Xw hSW=>by go_simp⟩) hHeld ?_
 simp only [Act.put,List.setIfInBounds_toArray,List.set_cons_zero,List.set_cons_succ]
 refine wpAnyH_take (i:=10) (oi:=⟨some 6,_,_,_,_,_⟩) (v:=.int .i64 (i:Int)) rfl (by kernel_rfl) (by kernel_rfl) (by kernel_rfl) (fun _ _ _ h=>h) (Or.inl ⟨by rfl,fun Xw hSW=>by go_simp⟩) hHeld ?_
 simp only [Act.put,List.setIfInBounds_toArray,List.set_cons_zero,List.set_cons_succ]
 refine wpAnyH_done (by kernel_rfl) ?_ _
 refine NoPanic.normal ?_
 clear hHeld
 have HOC1:=Lib.hid (show RowG.Own enc2 TC W1 0 (.slice (some ⟨gC,0,none⟩) n cC) f.cs from HVC.out ▸ HF1.out.cs)
 have k6:W1.cell? ⟨f.F,6,none⟩ = some (.slice (some ⟨gC,0,none⟩) n cC):=(HF1.out.blk.cell (i:=6) (v:=f.vC) rfl).trans (congrArg some HVC.out)
 have g0:W1.cell? ⟨gC,i * 2,none⟩ = some (.int .u8 (o1:Int)):=HOC1.out.cell (j:=0) HO.out rfl
 have g1:W1.cell? ⟨gC,i * 2 + 1,none⟩ = some (.int .u8 (o2:Int)):=HOC1.out.cell (j:=1) HO.out rfl
 have q1:=HE1.out.cell (i:=1) rfl
 have q2:=HE1.out.cell (i:=2) rfl
 have hlE:=HE1.out.lt
 go_wp2_with fail
 clear k6 g0 g1 q1 q2
 go_at_call 23
 refine calls_named (S:=fun W=>Below W1.heap.size W1 W∧Blk W (s + 3) TC [.int .u8 o1,.int .u8 o2]∧Blk W (s + 4) TC [.int .u8 k,.int .u8 l]) ⟨by (repeat' (first | (with_reducible exact Below.refl _ _) | (with_reducible refine Below.setCell ?_ (by (first | omega | (simp; done) | (simp; omega))) _) | (with_reducible refine Below.alloc ?_ (by (first | omega | (simp; done) | (simp; omega))) _) | (with_reducible refine Below.drew ?_) | (with_reducible refine below_drewN ?_ _))),by have:=HZ1.out; (repeat' (first | (with_reducible refine BlkP.Blk.drew ?_) | (with_reducible refine BlkP.Blk.drewN ?_ _) | (with_reducible refine BlkP.Blk.setAt (us:=?_) (by first | omega | (simp; done) | (simp; omega)) rfl ?_ ?_) | (with_reducible refine BlkP.Blk.otherAt ?_ (by first | omega | (simp; done) | (simp; omega))) | (with_reducible refine BlkP.Blk.newA' (by first | omega | (simp; done) | (simp; omega)) rfl) | (with_reducible refine BlkP.Blk.alloc ?_ _) | (exact rfl))),by have:=HZ1.out; (repeat' (first | (with_reducible refine BlkP.Blk.drew ?_) | (with_reducible refine BlkP.Blk.drewN ?_ _) | (with_reducible refine BlkP.Blk.setAt (us:=?_) (by first | omega | (simp; done) | (simp; omega)) rfl ?_ ?_) | (with_reducible refine BlkP.Blk.otherAt ?_ (by first | omega | (simp; done) | (simp; omega))) | (with_reducible refine BlkP.Blk.newA' (by first | omega | (simp; done) | (simp; omega)) rfl) | (with_reducible refine BlkP.Blk.alloc ?_ _) | (exact rfl)))⟩ ?_
 rintro W2 ⟨hb2,ho2,hk2⟩
 rw [HZ1.out,show s + 3 + 1 = s + 4 from rfl]
 obtain ⟨b,hb⟩:∃ b,KindP.may k l = b:=⟨_,rfl⟩
 refine (KindW.r_may_b hb W2).mono ?_
 rintro e W3 ⟨rfl,hb3⟩
 have hB3:=hb2.trans (hb3.mono hb2.size)
 obtain ⟨W3',hW3'⟩:∃ X,W3 = X:=⟨_,rfl⟩
 have HF3:=Lib.hid (HF1.out.below hB3)
 have HP3:=Lib.hid (HP1.out.below hB3)
 have HC3:=Lib.hid (HC1.out.below hB3)
 have HO3:=Lib.hid (ho2.below hb3)
 have HK3:=Lib.hid (hk2.below hb3)
 have HB3:=Lib.hid (show Below w.heap.size w W3 from HB1.out.trans (hB3.mono HB1.out.size))
 clear hb2 ho2 hk2 hb hb3 hB3 hW3' hlE HF1 HP1 HC1 HE1 HOC1
 cases b with
 | true =>
  go_wp2_with fail
  refine HeldP.wp_named (S:=fun W=>Below w.heap.size w W∧FldM W f∧Blk W (s + 1) TP [.int .i64 0,.int .i64 0,.int .i64 0]∧Blk W (s + 2) TC [.int .u8 0,.int .u8 0]∧Blk W (s + 3) TC [.int .u8 o1,.int .u8 o2]∧Blk W (s + 4) TC [.int .u8 k,.int .u8 l]) ⟨by have:=HS.out; have q:=HB3.out; (repeat' (first | (with_reducible exact Below.refl _ _) | (with_reducible refine Below.setCell ?_ (by (first | omega | (simp; done) | (simp; omega))) _) | (with_reducible refine Below.alloc ?_ (by (first | omega | (simp; done) | (simp; omega))) _) | (with_reducible refine Below.drew ?_) | (with_reducible refine below_drewN ?_ _) | (with_reducible refine Below.trans ?_ (Below.mono q (by (first | omega | (simp; done) | (simp; omega))))))),?_,by have q:=HP3.out; (repeat' (first | (with_reducible exact q) | (with_reducible refine BlkP.Blk.drew ?_) | (with_reducible refine BlkP.Blk.drewN ?_ _) | (with_reducible refine BlkP.Blk.setAt (us:=?_) (by first | omega | (simp; done) | (simp; omega)) rfl ?_ ?_) | (with_reducible refine BlkP.Blk.otherAt ?_ (by first | omega | (simp; done) | (simp; omega))) | (with_reducible refine BlkP.Blk.newA' (by first | omega | (simp; done) | (simp; omega)) rfl) | (with_reducible refine BlkP.Blk.alloc ?_ _) | (exact rfl))),by have q:=HC3.out; (repeat' (first | (with_reducible exact q) | (with_reducible refine BlkP.Blk.drew ?_) | (with_reducible refine BlkP.Blk.drewN ?_ _) | (with_reducible refine BlkP.Blk.setAt (us:=?_) (by first | omega | (simp; done) | (simp; omega)) rfl ?_ ?_) | (with_reducible refine BlkP.Blk.otherAt ?_ (by first | omega | (simp; done) | (simp; omega))) | (with_reducible refine BlkP.Blk.newA' (by first | omega | (simp; done) | (simp; omega)) rfl) | (with_reducible refine BlkP.Blk.alloc ?_ _) | (exact rfl))),by have q:=HO3.out; (repeat' (first | (with_reducible exact q) | (with_reducible refine BlkP.Blk.drew ?_) | (with_reducible refine BlkP.Blk.drewN ?_ _) | (with_reducible refine BlkP.Blk.setAt (us:=?_) (by first | omega | (simp; done) | (simp; omega)) rfl ?_ ?_) | (with_reducible refine BlkP.Blk.otherAt ?_ (by first | omega | (simp; done) | (simp; omega))) | (with_reducible refine BlkP.Blk.newA' (by first | omega | (simp; done) | (simp; omega)) rfl) | (with_reducible refine BlkP.Blk.alloc ?_ _) | (exact rfl))),by have q:=HK3.out; (repeat' (first | (with_reducible exact q) | (with_reducible refine BlkP.Blk.drew ?_) | (with_reducible refine BlkP.Blk.drewN ?_ _) | (with_reducible refine BlkP.Blk.setAt (us:=?_) (by first | omega | (simp; done) | (simp; omega)) rfl ?_ ?_) | (with_reducible refine BlkP.Blk.otherAt ?_ (by first | omega | (simp; done) | (simp; omega))) | (with_reducible refine BlkP.Blk.newA' (by first | omega | (simp; done) | (simp; omega)) rfl) | (with_reducible refine BlkP.Blk.alloc ?_ _) | (exact rfl)))⟩ ?_
  ·exact HF3.out.below (by (repeat' (first | (with_reducible exact Below.refl _ _) | (with_reducible refine Below.setCell ?_ (by (first | omega | (simp; done) | (simp; omega))) _) | (with_reducible refine Below.alloc ?_ (by (first | omega | (simp; done) | (simp; omega))) _) | (with_reducible refine Below.drew ?_) | (with_reducible refine below_drewN ?_ _))))
  rintro W4 ⟨hb4,hf4,hp4,hc4,ho4,hk4⟩
  have HB4:=Lib.hid hb4
  have HF4:=Lib.hid hf4
  have HP4:=Lib.hid hp4
  have HC4:=Lib.hid hc4
  have HO4:=Lib.hid ho4
  have HK4:=Lib.hid hk4
  have hcF:W4.cell? ⟨f.F,6,none⟩ = some (.slice (some ⟨gC,0,none⟩) n cC):=(hf4.blk.cell (i:=6) (v:=f.vC) rfl).trans (congrArg some HVC.out)
  have HCF:=Lib.hid hcF
  have HOC4:=Lib.hid (show RowG.Own enc2 TC W4 0 (.slice (some ⟨gC,0,none⟩) n cC) f.cs from HVC.out ▸ hf4.cs)
  have hsg:s + 4 ≠ gC:=by have:=HLS.out; omega
  clear hb4 hf4 hp4 hc4 ho4 hk4 hcF HF3 HP3 HC3 HO3 HK3 HB3
  refine wp_region_noPanic ?_
  refine wp_region_held_drew (S:=fun Xw=>Xw.cell? ⟨f.F,6,none⟩ = some (.slice (some ⟨gC,0,none⟩) n cC)∧Blk Xw (s + 4) TC [.int .u8 k,.int .u8 l]) (by kernel_rfl) (⟨HCF.out,HK4.out⟩) (fun hHeld=>?_)
  refine wpAnyH_take (i:=0) (oi:=⟨some 33,_,_,_,_,_⟩) (v:=.pointer (some ⟨f.F,0,none⟩)) rfl (by kernel_rfl) (by kernel_rfl) (by kernel_rfl) (fun _ _ _ h=>h) (Or.inl ⟨by rfl,fun Xw hSW=>by go_simp⟩) hHeld ?_
  simp only [Act.put,List.setIfInBounds_toArray,List.set_cons_zero,List.set_cons_succ]
  refine wpAnyH_take (i:=1) (oi:=⟨some 34,_,_,_,_,_⟩) (v:=.pointer (some ⟨f.F,0,none⟩)) rfl (by kernel_rfl) (by kernel_rfl) (by kernel_rfl) (fun _ _ _ h=>h) (Or.inl ⟨by rfl,fun Xw hSW=>by go_simp⟩) hHeld ?_
  simp only [Act.put,List.setIfInBounds_toArray,List.set_cons_zero,List.set_cons_succ]
  refine wpAnyH_take (i:=2) (oi:=⟨some 35,_,_,_,_,_⟩) (v:=.pointer (some ⟨f.F,3,none⟩)) rfl (by kernel_rfl) (by kernel_rfl) (by kernel_rfl) (fun _ _ _ h=>h) (Or.inl ⟨by rfl,fun Xw hSW=>by go_simp⟩) hHeld ?_
  simp only [Act.put,List.setIfInBounds_toArray,List.set_cons_zero,List.set_cons_succ]
  refine wpAnyH_take (i:=3) (oi:=⟨some 36,_,_,_,_,_⟩) (v:=.pointer (some ⟨f.F,6,none⟩)) rfl (by kernel_rfl) (by kernel_rfl) (by kernel_rfl) (fun _ _ _ h=>h) (Or.inl ⟨by rfl,fun Xw hSW=>by go_simp⟩) hHeld ?_
  simp only [Act.put,List.setIfInBounds_toArray,List.set_cons_zero,List.set_cons_succ]
  refine wpAnyH_take (i:=4) (oi:=⟨some 37,_,_,_,_,_⟩) (v:=.slice (some ⟨gC,0,none⟩) n cC) rfl (by kernel_rfl) (by kernel_rfl) (by kernel_rfl) (fun _ _ _ h=>h) (Or.inl ⟨by rfl,fun Xw hSW=>by have q:=hSW.1; go_simp⟩) hHeld ?_
  simp only [Act.put,List.setIfInBounds_toArray,List.set_cons_zero,List.set_cons_succ]
  refine wpAnyH_take (i:=5) (oi:=⟨some 38,_,_,_,_,_⟩) (v:=.int .i64 (i:Int)) rfl (by kernel_rfl) (by kernel_rfl) (by kernel_rfl) (fun _ _ _ h=>h) (Or.inl ⟨by rfl,fun Xw hSW=>by go_simp⟩) hHeld ?_
  simp only [Act.put,List.setIfInBounds_toArray,List.set_cons_zero,List.set_cons_succ]
  refine wpAnyH_take (i:=6) (oi:=⟨some 39,_,_,_,_,_⟩) (v:=.agg #[.int .u8 k,.int .u8 l]) rfl (by kernel_rfl) (by kernel_rfl) (by kernel_rfl) (fun _ _ _ h=>h) (Or.inl ⟨by rfl,fun Xw hSW=>by have a0:=hSW.2.cell (i:=0) rfl; have a1:=hSW.2.cell (i:=1) rfl; go_simp⟩) hHeld ?_
  simp only [Act.put,List.setIfInBounds_toArray,List.set_cons_zero,List.set_cons_succ]
  refine wpAnyH_take (i:=7) (oi:=⟨some 40,_,_,_,_,_⟩) (v:=.pointer (some ⟨gC,i * 2,none⟩)) rfl (by kernel_rfl) (by kernel_rfl) (by kernel_rfl) (fun _ _ _ h=>h) (Or.inl ⟨by rfl,fun Xw hSW=>by go_simp⟩) hHeld ?_
  simp only [Act.put,List.setIfInBounds_toArray,List.set_cons_zero,List.set_cons_succ]
  refine wpAnyH_ready (rs:=[8]) (by kernel_rfl) (by simp) ?_
  refine AllReadyH.cons (o:=⟨none,_,_,_,_,_⟩) rfl (fun K hK=>?_) AllReadyH.nil
  have g0:W4.cell? ⟨gC,i * 2,none⟩ = some (.int .u8 (o1:Int)):=HOC4.out.cell (j:=0) HO.out rfl
  have g1:W4.cell? ⟨gC,i * 2 + 1,none⟩ = some (.int .u8 (o2:Int)):=HOC4.out.cell (j:=1) HO.out rfl
  have z0:=HOC4.out.frozen (i * 2)
  have z1:=HOC4.out.frozen (i * 2 + 1)
  have hgf:gC ≠ f.F:=fun e=>HFG.out e.symm
  go_simp
  refine hK.out _ _ (⟨by have q:=HCF.out; (repeat' (first | (with_reducible assumption) | (with_reducible refine HeldP.c_drew ?_) | (with_reducible refine HeldP.c_drewN ?_) | (with_reducible refine HeldP.c_same (by omega) ?_) | (with_reducible refine HeldP.c_other ?_ ?_) | (with_reducible refine HeldP.c_new (by first | omega | (simp; done) | (simp; omega)) ?_) | (with_reducible refine HeldP.c_alloc ?_ ?_) | (with_reducible refine HeldP.e_drew ?_) | (with_reducible refine HeldP.e_drewN ?_) | (with_reducible refine HeldP.e_set ?_) | (with_reducible refine HeldP.e_new (by first | omega | (simp; done) | (simp; omega)) ⟨_,rfl⟩) | (with_reducible refine HeldP.e_alloc ?_ ?_) | (with_reducible refine HeldP.f_drew ?_) | (with_reducible refine HeldP.f_drewN ?_) | (with_reducible refine HeldP.f_set ?_) | (with_reducible refine HeldP.f_new (by first | omega | (simp; done) | (simp; omega))) | (with_reducible refine HeldP.f_alloc ?_ ?_) | (with_reducible refine HeldP.s_drew ?_) | (with_reducible refine HeldP.s_drewN ?_) | (with_reducible refine HeldP.s_set ?_) | (with_reducible refine HeldP.s_new (by first | omega | (simp; done) | (simp; omega))) | (with_reducible refine HeldP.s_alloc ?_) | (with_reducible exact ⟨_,by assumption⟩) | omega | (intro e; simp at e; done) | (intro e; simp at e; omega) | (exact rfl) | (simp; done) | (simp; omega))),by have q:=HK4.out; (repeat' (first | (with_reducible exact q) | (with_reducible refine BlkP.Blk.drew ?_) | (with_reducible refine BlkP.Blk.drewN ?_ _) | (with_reducible refine BlkP.Blk.setAt (us:=?_) (by first | omega | (simp; done) | (simp; omega)) rfl ?_ ?_) | (with_reducible refine BlkP.Blk.otherAt ?_ (by first | omega | (simp; done) | (simp; omega))) | (with_reducible refine BlkP.Blk.newA' (by first | omega | (simp; done) | (simp; omega)) rfl) | (with_reducible refine BlkP.Blk.alloc ?_ _) | (exact rfl)))⟩) (fun hHeld=>?_)
  clear hK K
  refine wpAnyH_done (by kernel_rfl) ?_ _
  refine NoPanic.normal ?_
  clear hHeld
  have hput:=FldM.putM HF4.out HVC.out HO.out k l
  refine HeldP.then_named (S:=fun W=>Fr (fun k=>f.vC.ownBlock = some k) w W∧FldM W (f.put i (k,l))∧Blk W (s + 1) TP [.int .i64 0,.int .i64 0,.int .i64 0]∧Blk W (s + 2) TC [.int .u8 0,.int .u8 0]∧Blk W (s + 3) TC [.int .u8 o1,.int .u8 o2]∧s + 3 < W.heap.size) ⟨(Fr.below _ HB4.out).trans (hput.2.drew) (fun j hj=>.inl (by
   have hj':j = gC:=hj
   rw [hj',HVC.out]
   rfl)),hput.1.below (by first | exact Below.refl _ _ | exact (Below.refl _ _).drew),?_,?_,?_,by simpa using HO4.out.lt⟩ ?_
  ·have q:=HP4.out
   have hl:=HLS.out
   (repeat' (first | (with_reducible exact q) | (with_reducible refine BlkP.Blk.drew ?_) | (with_reducible refine BlkP.Blk.drewN ?_ _) | (with_reducible refine BlkP.Blk.setAt (us:=?_) (by first | omega | (simp; done) | (simp; omega)) rfl ?_ ?_) | (with_reducible refine BlkP.Blk.otherAt ?_ (by first | omega | (simp; done) | (simp; omega))) | (with_reducible refine BlkP.Blk.newA' (by first | omega | (simp; done) | (simp; omega)) rfl) | (with_reducible refine BlkP.Blk.alloc ?_ _) | (exact rfl)))
  ·have q:=HC4.out
   have hl:=HLS.out
   (repeat' (first | (with_reducible exact q) | (with_reducible refine BlkP.Blk.drew ?_) | (with_reducible refine BlkP.Blk.drewN ?_ _) | (with_reducible refine BlkP.Blk.setAt (us:=?_) (by first | omega | (simp; done) | (simp; omega)) rfl ?_ ?_) | (with_reducible refine BlkP.Blk.otherAt ?_ (by first | omega | (simp; done) | (simp; omega))) | (with_reducible refine BlkP.Blk.newA' (by first | omega | (simp; done) | (simp; omega)) rfl) | (with_reducible refine BlkP.Blk.alloc ?_ _) | (exact rfl)))
  ·have q:=HO4.out
   have hl:=HLS.out
   (repeat' (first | (with_reducible exact q) | (with_reducible refine BlkP.Blk.drew ?_) | (with_reducible refine BlkP.Blk.drewN ?_ _) | (with_reducible refine BlkP.Blk.setAt (us:=?_) (by first | omega | (simp; done) | (simp; omega)) rfl ?_ ?_) | (with_reducible refine BlkP.Blk.otherAt ?_ (by first | omega | (simp; done) | (simp; omega))) | (with_reducible refine BlkP.Blk.newA' (by first | omega | (simp; done) | (simp; omega)) rfl) | (with_reducible refine BlkP.Blk.alloc ?_ _) | (exact rfl)))
  rintro W5 ⟨hr5,hf5,hp5,hc5,ho5,hz5⟩
  have HR5:=Lib.hid hr5
  have HF5:=Lib.hid hf5
  have HP5:=Lib.hid hp5
  have HC5:=Lib.hid hc5
  have HO5:=Lib.hid ho5
  have HZ5:=Lib.hid hz5
  have HFC:=Lib.hid (put_c (i:=i) (c:=(k,l)) HW.out HK.out)
  clear hput hr5 hf5 hp5 hc5 ho5 hz5 HF4 HP4 HC4 HO4 HK4 HB4 HCF HOC4 hsg
  go_wp2_with fail
  refine wp_region_noPanic ?_
  refine wp_region_held_drew (S:=fun Xw=>Blk Xw (s + 3) TC [.int .u8 o1,.int .u8 o2]) (by kernel_rfl) (HO5.out) (fun hHeld=>?_)
  refine wpAnyH_take (i:=0) (oi:=⟨some 41,_,_,_,_,_⟩) (v:=.pointer (some ⟨f.F,0,none⟩)) rfl (by kernel_rfl) (by kernel_rfl) (by kernel_rfl) (fun _ _ _ h=>h) (Or.inl ⟨by rfl,fun Xw hSW=>by go_simp⟩) hHeld ?_
  simp only [Act.put,List.setIfInBounds_toArray,List.set_cons_zero,List.set_cons_succ]
  refine wpAnyH_take (i:=1) (oi:=⟨some 42,_,_,_,_,_⟩) (v:=.int .i64 (i:Int)) rfl (by kernel_rfl) (by kernel_rfl) (by kernel_rfl) (fun _ _ _ h=>h) (Or.inl ⟨by rfl,fun Xw hSW=>by go_simp⟩) hHeld ?_
  simp only [Act.put,List.setIfInBounds_toArray,List.set_cons_zero,List.set_cons_succ]
  refine wpAnyH_take (i:=3) (oi:=⟨some 44,_,_,_,_,_⟩) (v:=.agg #[.int .u8 o1,.int .u8 o2]) rfl (by kernel_rfl) (by kernel_rfl) (by kernel_rfl) (fun _ _ _ h=>h) (Or.inl ⟨by rfl,fun Xw hSW=>by have a0:=hSW.cell (i:=0) rfl; have a1:=hSW.cell (i:=1) rfl; go_simp⟩) hHeld ?_
  simp only [Act.put,List.setIfInBounds_toArray,List.set_cons_zero,List.set_cons_succ]
  refine wpAnyH_ready (rs:=[2]) (by kernel_rfl) (by simp) ?_
  refine AllReadyH.cons (o:=⟨some 43,_,_,_,_,_⟩) rfl (fun K hK=>?_) AllReadyH.nil
  go_simp
  refine (at_c (w:=W5.drew) (i:=i) (HF5.out.below (by (repeat' (first | (with_reducible exact Below.refl _ _) | (with_reducible refine Below.setCell ?_ (by (first | omega | (simp; done) | (simp; omega))) _) | (with_reducible refine Below.alloc ?_ (by (first | omega | (simp; done) | (simp; omega))) _) | (with_reducible refine Below.drew ?_) | (with_reducible refine below_drewN ?_ _))))) HFC.out (by rw [show (f.put i (k,l)).X * (f.put i (k,l)).Y * (f.put i (k,l)).Z = n from HN.out]; exact hin)).mono ?_
  rintro e W6 ⟨rfl,hb6⟩
  rw [show plc (f.put i (k,l)) i = plc f i from rfl]
  have hB6:Below W5.heap.size W5 W6:=(show Below W5.heap.size W5 W5.drew by (repeat' (first | (with_reducible exact Below.refl _ _) | (with_reducible refine Below.setCell ?_ (by (first | omega | (simp; done) | (simp; omega))) _) | (with_reducible refine Below.alloc ?_ (by (first | omega | (simp; done) | (simp; omega))) _) | (with_reducible refine Below.drew ?_) | (with_reducible refine below_drewN ?_ _)))).trans hb6
  have HB6:=Lib.hid hB6
  have HO6:=Lib.hid (HO5.out.below hB6)
  have HP6:=Lib.hid (HP5.out.below hB6)
  have HC6:=Lib.hid (HC5.out.below hB6)
  have HR6:=Lib.hid (Fr.below (fun k=>k = s + 1 ∨ k = s + 2) hB6)
  clear hb6 hB6
  try go_wp2_with fail
  refine hK.out _ _ (HO6.out) (fun hHeld=>?_)
  clear hK K
  refine wpAnyH_ready (rs:=[4]) (by kernel_rfl) (by simp) ?_
  refine AllReadyH.cons (o:=⟨none,_,_,_,_,_⟩) rfl (fun K hK=>?_) AllReadyH.nil
  have hp6:=HP6.out
  have hl6:=hp6.lt
  have v0:=hp6.cell (i:=0) rfl
  have v1:=hp6.cell (i:=1) rfl
  have v2:=hp6.cell (i:=2) rfl
  have y0:=hp6.frozen 0
  have y1:=hp6.frozen 1
  have y2:=hp6.frozen 2
  go_simp
  clear hp6 hl6 v0 v1 v2 y0 y1 y2
  refine hK.out _ _ (by have q:=HO6.out; (repeat' (first | (with_reducible exact q) | (with_reducible refine BlkP.Blk.drew ?_) | (with_reducible refine BlkP.Blk.drewN ?_ _) | (with_reducible refine BlkP.Blk.setAt (us:=?_) (by first | omega | (simp; done) | (simp; omega)) rfl ?_ ?_) | (with_reducible refine BlkP.Blk.otherAt ?_ (by first | omega | (simp; done) | (simp; omega))) | (with_reducible refine BlkP.Blk.newA' (by first | omega | (simp; done) | (simp; omega)) rfl) | (with_reducible refine BlkP.Blk.alloc ?_ _) | (exact rfl)))) (fun hHeld=>?_)
  clear hK K
  refine wpAnyH_ready (rs:=[5]) (by kernel_rfl) (by simp) ?_
  refine AllReadyH.cons (o:=⟨none,_,_,_,_,_⟩) rfl (fun K hK=>?_) AllReadyH.nil
  have hc6:=HC6.out
  have hm6:=hc6.lt
  have u0:=hc6.cell (i:=0) rfl
  have u1:=hc6.cell (i:=1) rfl
  have x0:=hc6.frozen 0
  have x1:=hc6.frozen 1
  go_simp
  clear hc6 hm6 u0 u1 x0 x1
  refine hK.out _ _ (by have q:=HO6.out; (repeat' (first | (with_reducible exact q) | (with_reducible refine BlkP.Blk.drew ?_) | (with_reducible refine BlkP.Blk.drewN ?_ _) | (with_reducible refine BlkP.Blk.setAt (us:=?_) (by first | omega | (simp; done) | (simp; omega)) rfl ?_ ?_) | (with_reducible refine BlkP.Blk.otherAt ?_ (by first | omega | (simp; done) | (simp; omega))) | (with_reducible refine BlkP.Blk.newA' (by first | omega | (simp; done) | (simp; omega)) rfl) | (with_reducible refine BlkP.Blk.alloc ?_ _) | (exact rfl)))) (fun hHeld=>?_)
  clear hK K
  refine wpAnyH_done (by kernel_rfl) ?_ _
  refine NoPanic.normal ?_
  clear hHeld
  refine HeldP.then_named (S:=fun W=>Blk W (s + 1) TP [.int .i64 ((plc f i).1),.int .i64 ((plc f i).2.1),.int .i64 ((plc f i).2.2)]∧Blk W (s + 2) TC [.int .u8 o1,.int .u8 o2]∧Fr (fun k=>k = s + 1 ∨ k = s + 2) W5 W) ⟨by have q:=HP6.out; (repeat' (first | (with_reducible exact q) | (with_reducible refine BlkP.Blk.drew ?_) | (with_reducible refine BlkP.Blk.drewN ?_ _) | (with_reducible refine BlkP.Blk.setAt (us:=?_) (by first | omega | (simp; done) | (simp; omega)) rfl ?_ ?_) | (with_reducible refine BlkP.Blk.otherAt ?_ (by first | omega | (simp; done) | (simp; omega))) | (with_reducible refine BlkP.Blk.newA' (by first | omega | (simp; done) | (simp; omega)) rfl) | (with_reducible refine BlkP.Blk.alloc ?_ _) | (exact rfl))),by have q:=HC6.out; (repeat' (first | (with_reducible exact q) | (with_reducible refine BlkP.Blk.drew ?_) | (with_reducible refine BlkP.Blk.drewN ?_ _) | (with_reducible refine BlkP.Blk.setAt (us:=?_) (by first | omega | (simp; done) | (simp; omega)) rfl ?_ ?_) | (with_reducible refine BlkP.Blk.otherAt ?_ (by first | omega | (simp; done) | (simp; omega))) | (with_reducible refine BlkP.Blk.newA' (by first | omega | (simp; done) | (simp; omega)) rfl) | (with_reducible refine BlkP.Blk.alloc ?_ _) | (exact rfl))),?_⟩ ?_
  ·refine HR6.out.trans (S':=fun k=>k = s + 1 ∨ k = s + 2) ?_ (fun _ h=>.inl h)
   repeat' (first | (with_reducible exact Fr.refl _ _) | (with_reducible refine Fr.drew ?_) | (refine Fr.trans (S':=fun k=>k = s + 1 ∨ k = s + 2) ?_ (Fr.set _ _ _ _ (by first | exact .inl rfl | exact .inr rfl)) (fun _ h=>.inl h)))
  rintro W7 ⟨hp7,hc7,hr7⟩
  have HR7:=Lib.hid hr7
  have p0:=hp7.cell (i:=0) rfl
  have p1:=hp7.cell (i:=1) rfl
  have p2:=hp7.cell (i:=2) rfl
  have p3:=hc7.cell (i:=0) rfl
  have p4:=hc7.cell (i:=1) rfl
  clear hr7
  go_wp2_with fail
  refine bodyPost_ret (v:=.tuple #[.agg #[.int .i64 ((plc f i).1),.int .i64 ((plc f i).2.1),.int .i64 ((plc f i).2.2)],.agg #[.int .u8 o1,.int .u8 o2]]) (by simp [results,Tryd.results12,go_sem,p0,p1,p2,p3,p4]) rfl ?_
  refine ⟨i,o1,o2,k,l,by rw [HN.out]; exact hin,HK.out,HO.out,rfl,HF5.out.fr HR7.out ?_ ?_ ?_ ?_ ?_,HR5.out.trans HR7.out (fun k hk=>.inr (by have:=HS.out; omega))⟩
  ·have h1:f.F < s:=HLS.out.1
   show ¬ (f.F = s + 1 ∨ f.F = s + 2)
   omega
  all_goals (intro k hk hs2; have h0:=HS.out)
  ·have:=(H.out.cs.ge k hk).2; omega
  ·have:=(H.out.ls.ge k hk).2; omega
  ·have:=(H.out.ak.ge k hk).2; omega
  ·have:=(H.out.ts.ge k hk).2; omega
 | false =>
  have y0:=HK3.out.cell (i:=0) rfl
  have y1:=HK3.out.cell (i:=1) rfl
  have yz:=HK3.out.frozen 0
  have yy:=HK3.out.frozen 1
  have yl:=HK3.out.lt
  go_wp2_with fail
  clear y0 y1 yz yy yl
  refine HeldP.wp_named (S:=fun W=>Below w.heap.size w W∧FldM W f∧Blk W (s + 1) TP [.int .i64 0,.int .i64 0,.int .i64 0]∧Blk W (s + 2) TC [.int .u8 0,.int .u8 0]∧Blk W (s + 3) TC [.int .u8 o1,.int .u8 o2]∧Blk W (s + 4) TC [.int .u8 0,.int .u8 0]) ⟨by have:=HS.out; have q:=HB3.out; (repeat' (first | (with_reducible exact Below.refl _ _) | (with_reducible refine Below.setCell ?_ (by (first | omega | (simp; done) | (simp; omega))) _) | (with_reducible refine Below.alloc ?_ (by (first | omega | (simp; done) | (simp; omega))) _) | (with_reducible refine Below.drew ?_) | (with_reducible refine below_drewN ?_ _) | (with_reducible refine Below.trans ?_ (Below.mono q (by (first | omega | (simp; done) | (simp; omega))))))),?_,by have q:=HP3.out; (repeat' (first | (with_reducible exact q) | (with_reducible refine BlkP.Blk.drew ?_) | (with_reducible refine BlkP.Blk.drewN ?_ _) | (with_reducible refine BlkP.Blk.setAt (us:=?_) (by first | omega | (simp; done) | (simp; omega)) rfl ?_ ?_) | (with_reducible refine BlkP.Blk.otherAt ?_ (by first | omega | (simp; done) | (simp; omega))) | (with_reducible refine BlkP.Blk.newA' (by first | omega | (simp; done) | (simp; omega)) rfl) | (with_reducible refine BlkP.Blk.alloc ?_ _) | (exact rfl))),by have q:=HC3.out; (repeat' (first | (with_reducible exact q) | (with_reducible refine BlkP.Blk.drew ?_) | (with_reducible refine BlkP.Blk.drewN ?_ _) | (with_reducible refine BlkP.Blk.setAt (us:=?_) (by first | omega | (simp; done) | (simp; omega)) rfl ?_ ?_) | (with_reducible refine BlkP.Blk.otherAt ?_ (by first | omega | (simp; done) | (simp; omega))) | (with_reducible refine BlkP.Blk.newA' (by first | omega | (simp; done) | (simp; omega)) rfl) | (with_reducible refine BlkP.Blk.alloc ?_ _) | (exact rfl))),by have q:=HO3.out; (repeat' (first | (with_reducible exact q) | (with_reducible refine BlkP.Blk.drew ?_) | (with_reducible refine BlkP.Blk.drewN ?_ _) | (with_reducible refine BlkP.Blk.setAt (us:=?_) (by first | omega | (simp; done) | (simp; omega)) rfl ?_ ?_) | (with_reducible refine BlkP.Blk.otherAt ?_ (by first | omega | (simp; done) | (simp; omega))) | (with_reducible refine BlkP.Blk.newA' (by first | omega | (simp; done) | (simp; omega)) rfl) | (with_reducible refine BlkP.Blk.alloc ?_ _) | (exact rfl))),by have q:=HK3.out; (repeat' (first | (with_reducible exact q) | (with_reducible refine BlkP.Blk.drew ?_) | (with_reducible refine BlkP.Blk.drewN ?_ _) | (with_reducible refine BlkP.Blk.setAt (us:=?_) (by first | omega | (simp; done) | (simp; omega)) rfl ?_ ?_) | (with_reducible refine BlkP.Blk.otherAt ?_ (by first | omega | (simp; done) | (simp; omega))) | (with_reducible refine BlkP.Blk.newA' (by first | omega | (simp; done) | (simp; omega)) rfl) | (with_reducible refine BlkP.Blk.alloc ?_ _) | (exact rfl)))⟩ ?_
  ·refine HF3.out.fr (S:=fun k=>k = s + 4) ?_ ?_ ?_ ?_ ?_ ?_
   ·repeat' (first | (with_reducible exact Fr.refl _ _) | (with_reducible refine Fr.drew ?_) | (refine Fr.trans (S':=fun k=>k = s + 4) ?_ (Fr.set _ _ _ _ rfl) (fun _ h=>.inl h)))
   ·have h1:f.F < s:=HLS.out.1
    show ¬ (f.F = s + 4)
    omega
   all_goals (intro k hk hs2; have hs2':k = s + 4:=hs2; have h0:=HS.out)
   ·have:=(H.out.cs.ge k hk).2; omega
   ·have:=(H.out.ls.ge k hk).2; omega
   ·have:=(H.out.ak.ge k hk).2; omega
   ·have:=(H.out.ts.ge k hk).2; omega
  rintro W4 ⟨hb4,hf4,hp4,hc4,ho4,hk4⟩
  have HB4:=Lib.hid hb4
  have HF4:=Lib.hid hf4
  have HP4:=Lib.hid hp4
  have HC4:=Lib.hid hc4
  have HO4:=Lib.hid ho4
  have HK4:=Lib.hid hk4
  have hcF:W4.cell? ⟨f.F,6,none⟩ = some (.slice (some ⟨gC,0,none⟩) n cC):=(hf4.blk.cell (i:=6) (v:=f.vC) rfl).trans (congrArg some HVC.out)
  have HCF:=Lib.hid hcF
  have HOC4:=Lib.hid (show RowG.Own enc2 TC W4 0 (.slice (some ⟨gC,0,none⟩) n cC) f.cs from HVC.out ▸ hf4.cs)
  have hsg:s + 4 ≠ gC:=by have:=HLS.out; omega
  clear hb4 hf4 hp4 hc4 ho4 hk4 hcF HF3 HP3 HC3 HO3 HK3 HB3
  refine wp_region_noPanic ?_
  refine wp_region_held_drew (S:=fun Xw=>Xw.cell? ⟨f.F,6,none⟩ = some (.slice (some ⟨gC,0,none⟩) n cC)∧Blk Xw (s + 4) TC [.int .u8 0,.int .u8 0]) (by kernel_rfl) (⟨HCF.out,HK4.out⟩) (fun hHeld=>?_)
  refine wpAnyH_take (i:=0) (oi:=⟨some 33,_,_,_,_,_⟩) (v:=.pointer (some ⟨f.F,0,none⟩)) rfl (by kernel_rfl) (by kernel_rfl) (by kernel_rfl) (fun _ _ _ h=>h) (Or.inl ⟨by rfl,fun Xw hSW=>by go_simp⟩) hHeld ?_
  simp only [Act.put,List.setIfInBounds_toArray,List.set_cons_zero,List.set_cons_succ]
  refine wpAnyH_take (i:=1) (oi:=⟨some 34,_,_,_,_,_⟩) (v:=.pointer (some ⟨f.F,0,none⟩)) rfl (by kernel_rfl) (by kernel_rfl) (by kernel_rfl) (fun _ _ _ h=>h) (Or.inl ⟨by rfl,fun Xw hSW=>by go_simp⟩) hHeld ?_
  simp only [Act.put,List.setIfInBounds_toArray,List.set_cons_zero,List.set_cons_succ]
  refine wpAnyH_take (i:=2) (oi:=⟨some 35,_,_,_,_,_⟩) (v:=.pointer (some ⟨f.F,3,none⟩)) rfl (by kernel_rfl) (by kernel_rfl) (by kernel_rfl) (fun _ _ _ h=>h) (Or.inl ⟨by rfl,fun Xw hSW=>by go_simp⟩) hHeld ?_
  simp only [Act.put,List.setIfInBounds_toArray,List.set_cons_zero,List.set_cons_succ]
  refine wpAnyH_take (i:=3) (oi:=⟨some 36,_,_,_,_,_⟩) (v:=.pointer (some ⟨f.F,6,none⟩)) rfl (by kernel_rfl) (by kernel_rfl) (by kernel_rfl) (fun _ _ _ h=>h) (Or.inl ⟨by rfl,fun Xw hSW=>by go_simp⟩) hHeld ?_
  simp only [Act.put,List.setIfInBounds_toArray,List.set_cons_zero,List.set_cons_succ]
  refine wpAnyH_take (i:=4) (oi:=⟨some 37,_,_,_,_,_⟩) (v:=.slice (some ⟨gC,0,none⟩) n cC) rfl (by kernel_rfl) (by kernel_rfl) (by kernel_rfl) (fun _ _ _ h=>h) (Or.inl ⟨by rfl,fun Xw hSW=>by have q:=hSW.1; go_simp⟩) hHeld ?_
  simp only [Act.put,List.setIfInBounds_toArray,List.set_cons_zero,List.set_cons_succ]
  refine wpAnyH_take (i:=5) (oi:=⟨some 38,_,_,_,_,_⟩) (v:=.int .i64 (i:Int)) rfl (by kernel_rfl) (by kernel_rfl) (by kernel_rfl) (fun _ _ _ h=>h) (Or.inl ⟨by rfl,fun Xw hSW=>by go_simp⟩) hHeld ?_
  simp only [Act.put,List.setIfInBounds_toArray,List.set_cons_zero,List.set_cons_succ]
  refine wpAnyH_take (i:=6) (oi:=⟨some 39,_,_,_,_,_⟩) (v:=.agg #[.int .u8 0,.int .u8 0]) rfl (by kernel_rfl) (by kernel_rfl) (by kernel_rfl) (fun _ _ _ h=>h) (Or.inl ⟨by rfl,fun Xw hSW=>by have a0:=hSW.2.cell (i:=0) rfl; have a1:=hSW.2.cell (i:=1) rfl; go_simp⟩) hHeld ?_
  simp only [Act.put,List.setIfInBounds_toArray,List.set_cons_zero,List.set_cons_succ]
  refine wpAnyH_take (i:=7) (oi:=⟨some 40,_,_,_,_,_⟩) (v:=.pointer (some ⟨gC,i * 2,none⟩)) rfl (by kernel_rfl) (by kernel_rfl) (by kernel_rfl) (fun _ _ _ h=>h) (Or.inl ⟨by rfl,fun Xw hSW=>by go_simp⟩) hHeld ?_
  simp only [Act.put,List.setIfInBounds_toArray,List.set_cons_zero,List.set_cons_succ]
  refine wpAnyH_ready (rs:=[8]) (by kernel_rfl) (by simp) ?_
  refine AllReadyH.cons (o:=⟨none,_,_,_,_,_⟩) rfl (fun K hK=>?_) AllReadyH.nil
  have g0:W4.cell? ⟨gC,i * 2,none⟩ = some (.int .u8 (o1:Int)):=HOC4.out.cell (j:=0) HO.out rfl
  have g1:W4.cell? ⟨gC,i * 2 + 1,none⟩ = some (.int .u8 (o2:Int)):=HOC4.out.cell (j:=1) HO.out rfl
  have z0:=HOC4.out.frozen (i * 2)
  have z1:=HOC4.out.frozen (i * 2 + 1)
  have hgf:gC ≠ f.F:=fun e=>HFG.out e.symm
  go_simp
  refine hK.out _ _ (⟨by have q:=HCF.out; (repeat' (first | (with_reducible assumption) | (with_reducible refine HeldP.c_drew ?_) | (with_reducible refine HeldP.c_drewN ?_) | (with_reducible refine HeldP.c_same (by omega) ?_) | (with_reducible refine HeldP.c_other ?_ ?_) | (with_reducible refine HeldP.c_new (by first | omega | (simp; done) | (simp; omega)) ?_) | (with_reducible refine HeldP.c_alloc ?_ ?_) | (with_reducible refine HeldP.e_drew ?_) | (with_reducible refine HeldP.e_drewN ?_) | (with_reducible refine HeldP.e_set ?_) | (with_reducible refine HeldP.e_new (by first | omega | (simp; done) | (simp; omega)) ⟨_,rfl⟩) | (with_reducible refine HeldP.e_alloc ?_ ?_) | (with_reducible refine HeldP.f_drew ?_) | (with_reducible refine HeldP.f_drewN ?_) | (with_reducible refine HeldP.f_set ?_) | (with_reducible refine HeldP.f_new (by first | omega | (simp; done) | (simp; omega))) | (with_reducible refine HeldP.f_alloc ?_ ?_) | (with_reducible refine HeldP.s_drew ?_) | (with_reducible refine HeldP.s_drewN ?_) | (with_reducible refine HeldP.s_set ?_) | (with_reducible refine HeldP.s_new (by first | omega | (simp; done) | (simp; omega))) | (with_reducible refine HeldP.s_alloc ?_) | (with_reducible exact ⟨_,by assumption⟩) | omega | (intro e; simp at e; done) | (intro e; simp at e; omega) | (exact rfl) | (simp; done) | (simp; omega))),by have q:=HK4.out; (repeat' (first | (with_reducible exact q) | (with_reducible refine BlkP.Blk.drew ?_) | (with_reducible refine BlkP.Blk.drewN ?_ _) | (with_reducible refine BlkP.Blk.setAt (us:=?_) (by first | omega | (simp; done) | (simp; omega)) rfl ?_ ?_) | (with_reducible refine BlkP.Blk.otherAt ?_ (by first | omega | (simp; done) | (simp; omega))) | (with_reducible refine BlkP.Blk.newA' (by first | omega | (simp; done) | (simp; omega)) rfl) | (with_reducible refine BlkP.Blk.alloc ?_ _) | (exact rfl)))⟩) (fun hHeld=>?_)
  clear hK K
  refine wpAnyH_done (by kernel_rfl) ?_ _
  refine NoPanic.normal ?_
  clear hHeld
  have hput:=FldM.putM HF4.out HVC.out HO.out 0 0
  refine HeldP.then_named (S:=fun W=>Fr (fun k=>f.vC.ownBlock = some k) w W∧FldM W (f.put i (0,0))∧Blk W (s + 1) TP [.int .i64 0,.int .i64 0,.int .i64 0]∧Blk W (s + 2) TC [.int .u8 0,.int .u8 0]∧Blk W (s + 3) TC [.int .u8 o1,.int .u8 o2]∧s + 3 < W.heap.size) ⟨(Fr.below _ HB4.out).trans (hput.2.drew) (fun j hj=>.inl (by
   have hj':j = gC:=hj
   rw [hj',HVC.out]
   rfl)),hput.1.below (by first | exact Below.refl _ _ | exact (Below.refl _ _).drew),?_,?_,?_,by simpa using HO4.out.lt⟩ ?_
  ·have q:=HP4.out
   have hl:=HLS.out
   (repeat' (first | (with_reducible exact q) | (with_reducible refine BlkP.Blk.drew ?_) | (with_reducible refine BlkP.Blk.drewN ?_ _) | (with_reducible refine BlkP.Blk.setAt (us:=?_) (by first | omega | (simp; done) | (simp; omega)) rfl ?_ ?_) | (with_reducible refine BlkP.Blk.otherAt ?_ (by first | omega | (simp; done) | (simp; omega))) | (with_reducible refine BlkP.Blk.newA' (by first | omega | (simp; done) | (simp; omega)) rfl) | (with_reducible refine BlkP.Blk.alloc ?_ _) | (exact rfl)))
  ·have q:=HC4.out
   have hl:=HLS.out
   (repeat' (first | (with_reducible exact q) | (with_reducible refine BlkP.Blk.drew ?_) | (with_reducible refine BlkP.Blk.drewN ?_ _) | (with_reducible refine BlkP.Blk.setAt (us:=?_) (by first | omega | (simp; done) | (simp; omega)) rfl ?_ ?_) | (with_reducible refine BlkP.Blk.otherAt ?_ (by first | omega | (simp; done) | (simp; omega))) | (with_reducible refine BlkP.Blk.newA' (by first | omega | (simp; done) | (simp; omega)) rfl) | (with_reducible refine BlkP.Blk.alloc ?_ _) | (exact rfl)))
  ·have q:=HO4.out
   have hl:=HLS.out
   (repeat' (first | (with_reducible exact q) | (with_reducible refine BlkP.Blk.drew ?_) | (with_reducible refine BlkP.Blk.drewN ?_ _) | (with_reducible refine BlkP.Blk.setAt (us:=?_) (by first | omega | (simp; done) | (simp; omega)) rfl ?_ ?_) | (with_reducible refine BlkP.Blk.otherAt ?_ (by first | omega | (simp; done) | (simp; omega))) | (with_reducible refine BlkP.Blk.newA' (by first | omega | (simp; done) | (simp; omega)) rfl) | (with_reducible refine BlkP.Blk.alloc ?_ _) | (exact rfl)))
  rintro W5 ⟨hr5,hf5,hp5,hc5,ho5,hz5⟩
  have HR5:=Lib.hid hr5
  have HF5:=Lib.hid hf5
  have HP5:=Lib.hid hp5
  have HC5:=Lib.hid hc5
  have HO5:=Lib.hid ho5
  have HZ5:=Lib.hid hz5
  have HFC:=Lib.hid (put_c (i:=i) (c:=(0,0)) HW.out ⟨by decide,by decide⟩)
  clear hput hr5 hf5 hp5 hc5 ho5 hz5 HF4 HP4 HC4 HO4 HK4 HB4 HCF HOC4 hsg
  go_wp2_with fail
  refine wp_region_noPanic ?_
  refine wp_region_held_drew (S:=fun Xw=>Blk Xw (s + 3) TC [.int .u8 o1,.int .u8 o2]) (by kernel_rfl) (HO5.out) (fun hHeld=>?_)
  refine wpAnyH_take (i:=0) (oi:=⟨some 41,_,_,_,_,_⟩) (v:=.pointer (some ⟨f.F,0,none⟩)) rfl (by kernel_rfl) (by kernel_rfl) (by kernel_rfl) (fun _ _ _ h=>h) (Or.inl ⟨by rfl,fun Xw hSW=>by go_simp⟩) hHeld ?_
  simp only [Act.put,List.setIfInBounds_toArray,List.set_cons_zero,List.set_cons_succ]
  refine wpAnyH_take (i:=1) (oi:=⟨some 42,_,_,_,_,_⟩) (v:=.int .i64 (i:Int)) rfl (by kernel_rfl) (by kernel_rfl) (by kernel_rfl) (fun _ _ _ h=>h) (Or.inl ⟨by rfl,fun Xw hSW=>by go_simp⟩) hHeld ?_
  simp only [Act.put,List.setIfInBounds_toArray,List.set_cons_zero,List.set_cons_succ]
  refine wpAnyH_take (i:=3) (oi:=⟨some 44,_,_,_,_,_⟩) (v:=.agg #[.int .u8 o1,.int .u8 o2]) rfl (by kernel_rfl) (by kernel_rfl) (by kernel_rfl) (fun _ _ _ h=>h) (Or.inl ⟨by rfl,fun Xw hSW=>by have a0:=hSW.cell (i:=0) rfl; have a1:=hSW.cell (i:=1) rfl; go_simp⟩) hHeld ?_
  simp only [Act.put,List.setIfInBounds_toArray,List.set_cons_zero,List.set_cons_succ]
  refine wpAnyH_ready (rs:=[2]) (by kernel_rfl) (by simp) ?_
  refine AllReadyH.cons (o:=⟨some 43,_,_,_,_,_⟩) rfl (fun K hK=>?_) AllReadyH.nil
  go_simp
  refine (at_c (w:=W5.drew) (i:=i) (HF5.out.below (by (repeat' (first | (with_reducible exact Below.refl _ _) | (with_reducible refine Below.setCell ?_ (by (first | omega | (simp; done) | (simp; omega))) _) | (with_reducible refine Below.alloc ?_ (by (first | omega | (simp; done) | (simp; omega))) _) | (with_reducible refine Below.drew ?_) | (with_reducible refine below_drewN ?_ _))))) HFC.out (by rw [show (f.put i (0,0)).X * (f.put i (0,0)).Y * (f.put i (0,0)).Z = n from HN.out]; exact hin)).mono ?_
  rintro e W6 ⟨rfl,hb6⟩
  rw [show plc (f.put i (0,0)) i = plc f i from rfl]
  have hB6:Below W5.heap.size W5 W6:=(show Below W5.heap.size W5 W5.drew by (repeat' (first | (with_reducible exact Below.refl _ _) | (with_reducible refine Below.setCell ?_ (by (first | omega | (simp; done) | (simp; omega))) _) | (with_reducible refine Below.alloc ?_ (by (first | omega | (simp; done) | (simp; omega))) _) | (with_reducible refine Below.drew ?_) | (with_reducible refine below_drewN ?_ _)))).trans hb6
  have HB6:=Lib.hid hB6
  have HO6:=Lib.hid (HO5.out.below hB6)
  have HP6:=Lib.hid (HP5.out.below hB6)
  have HC6:=Lib.hid (HC5.out.below hB6)
  have HR6:=Lib.hid (Fr.below (fun k=>k = s + 1 ∨ k = s + 2) hB6)
  clear hb6 hB6
  try go_wp2_with fail
  refine hK.out _ _ (HO6.out) (fun hHeld=>?_)
  clear hK K
  refine wpAnyH_ready (rs:=[4]) (by kernel_rfl) (by simp) ?_
  refine AllReadyH.cons (o:=⟨none,_,_,_,_,_⟩) rfl (fun K hK=>?_) AllReadyH.nil
  have hp6:=HP6.out
  have hl6:=hp6.lt
  have v0:=hp6.cell (i:=0) rfl
  have v1:=hp6.cell (i:=1) rfl
  have v2:=hp6.cell (i:=2) rfl
  have y0:=hp6.frozen 0
  have y1:=hp6.frozen 1
  have y2:=hp6.frozen 2
  go_simp
  clear hp6 hl6 v0 v1 v2 y0 y1 y2
  refine hK.out _ _ (by have q:=HO6.out; (repeat' (first | (with_reducible exact q) | (with_reducible refine BlkP.Blk.drew ?_) | (with_reducible refine BlkP.Blk.drewN ?_ _) | (with_reducible refine BlkP.Blk.setAt (us:=?_) (by first | omega | (simp; done) | (simp; omega)) rfl ?_ ?_) | (with_reducible refine BlkP.Blk.otherAt ?_ (by first | omega | (simp; done) | (simp; omega))) | (with_reducible refine BlkP.Blk.newA' (by first | omega | (simp; done) | (simp; omega)) rfl) | (with_reducible refine BlkP.Blk.alloc ?_ _) | (exact rfl)))) (fun hHeld=>?_)
  clear hK K
  refine wpAnyH_ready (rs:=[5]) (by kernel_rfl) (by simp) ?_
  refine AllReadyH.cons (o:=⟨none,_,_,_,_,_⟩) rfl (fun K hK=>?_) AllReadyH.nil
  have hc6:=HC6.out
  have hm6:=hc6.lt
  have u0:=hc6.cell (i:=0) rfl
  have u1:=hc6.cell (i:=1) rfl
  have x0:=hc6.frozen 0
  have x1:=hc6.frozen 1
  go_simp
  clear hc6 hm6 u0 u1 x0 x1
  refine hK.out _ _ (by have q:=HO6.out; (repeat' (first | (with_reducible exact q) | (with_reducible refine BlkP.Blk.drew ?_) | (with_reducible refine BlkP.Blk.drewN ?_ _) | (with_reducible refine BlkP.Blk.setAt (us:=?_) (by first | omega | (simp; done) | (simp; omega)) rfl ?_ ?_) | (with_reducible refine BlkP.Blk.otherAt ?_ (by first | omega | (simp; done) | (simp; omega))) | (with_reducible refine BlkP.Blk.newA' (by first | omega | (simp; done) | (simp; omega)) rfl) | (with_reducible refine BlkP.Blk.alloc ?_ _) | (exact rfl)))) (fun hHeld=>?_)
  clear hK K
  refine wpAnyH_done (by kernel_rfl) ?_ _
  refine NoPanic.normal ?_
  clear hHeld
  refine HeldP.then_named (S:=fun W=>Blk W (s + 1) TP [.int .i64 ((plc f i).1),.int .i64 ((plc f i).2.1),.int .i64 ((plc f i).2.2)]∧Blk W (s + 2) TC [.int .u8 o1,.int .u8 o2]∧Fr (fun k=>k = s + 1 ∨ k = s + 2) W5 W) ⟨by have q:=HP6.out; (repeat' (first | (with_reducible exact q) | (with_reducible refine BlkP.Blk.drew ?_) | (with_reducible refine BlkP.Blk.drewN ?_ _) | (with_reducible refine BlkP.Blk.setAt (us:=?_) (by first | omega | (simp; done) | (simp; omega)) rfl ?_ ?_) | (with_reducible refine BlkP.Blk.otherAt ?_ (by first | omega | (simp; done) | (simp; omega))) | (with_reducible refine BlkP.Blk.newA' (by first | omega | (simp; done) | (simp; omega)) rfl) | (with_reducible refine BlkP.Blk.alloc ?_ _) | (exact rfl))),by have q:=HC6.out; (repeat' (first | (with_reducible exact q) | (with_reducible refine BlkP.Blk.drew ?_) | (with_reducible refine BlkP.Blk.drewN ?_ _) | (with_reducible refine BlkP.Blk.setAt (us:=?_) (by first | omega | (simp; done) | (simp; omega)) rfl ?_ ?_) | (with_reducible refine BlkP.Blk.otherAt ?_ (by first | omega | (simp; done) | (simp; omega))) | (with_reducible refine BlkP.Blk.newA' (by first | omega | (simp; done) | (simp; omega)) rfl) | (with_reducible refine BlkP.Blk.alloc ?_ _) | (exact rfl))),?_⟩ ?_
  ·refine HR6.out.trans (S':=fun k=>k = s + 1 ∨ k = s + 2) ?_ (fun _ h=>.inl h)
   repeat' (first | (with_reducible exact Fr.refl _ _) | (with_reducible refine Fr.drew ?_) | (refine Fr.trans (S':=fun k=>k = s + 1 ∨ k = s + 2) ?_ (Fr.set _ _ _ _ (by first | exact .inl rfl | exact .inr rfl)) (fun _ h=>.inl h)))
  rintro W7 ⟨hp7,hc7,hr7⟩
  have HR7:=Lib.hid hr7
  have p0:=hp7.cell (i:=0) rfl
  have p1:=hp7.cell (i:=1) rfl
  have p2:=hp7.cell (i:=2) rfl
  have p3:=hc7.cell (i:=0) rfl
  have p4:=hc7.cell (i:=1) rfl
  clear hr7
  go_wp2_with fail
  refine bodyPost_ret (v:=.tuple #[.agg #[.int .i64 ((plc f i).1),.int .i64 ((plc f i).2.1),.int .i64 ((plc f i).2.2)],.agg #[.int .u8 o1,.int .u8 o2]]) (by simp [results,Tryd.results12,go_sem,p0,p1,p2,p3,p4]) rfl ?_
  refine ⟨i,o1,o2,0,0,by rw [HN.out]; exact hin,⟨by decide,by decide⟩,HO.out,rfl,HF5.out.fr HR7.out ?_ ?_ ?_ ?_ ?_,HR5.out.trans HR7.out (fun k hk=>.inr (by have:=HS.out; omega))⟩
  ·have h1:f.F < s:=HLS.out.1
   show ¬ (f.F = s + 1 ∨ f.F = s + 2)
   omega
  all_goals (intro k hk hs2; have h0:=HS.out)
  ·have:=(H.out.cs.ge k hk).2; omega
  ·have:=(H.out.ls.ge k hk).2; omega
  ·have:=(H.out.ak.ge k hk).2; omega
  ·have:=(H.out.ts.ge k hk).2; omega
end FloodW
end Go.Proofs.YtpimkdaikoclnaaDoor
namespace Go.Proofs.YtpimkdaikoclnaaDoor
open Go.RowKit
set_option linter.unusedVariables false
set_option linter.unusedSimpArgs false
namespace FloodW
open BlkP RowG GlowW FloodP
end FloodW
end Go.Proofs.YtpimkdaikoclnaaDoor
